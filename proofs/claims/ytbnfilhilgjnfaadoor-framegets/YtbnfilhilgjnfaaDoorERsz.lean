/- The document's Size. -/
import Derived.Test.YtbnfilhilgjnfaaDoorERfi
import Derived.Test.YtbnfilhilgjnfaaDoorEAll
namespace Go.Proofs.YtbnfilhilgjnfaaDoor.Ed
set_option linter.unusedVariables false
set_option linter.unusedSimpArgs false
open Go.ChangeShapes Go.WideShapes Go.ChangeAt Go.RowKit Go.Joins Go.Deep

abbrev zrsz0 : Oper := { dst := some 16, op := Op.load 44 (Operand.tmp 8), type := 44, pos := "ref.go:31", after := #[], guard := none }
abbrev zrsz1 : Oper := { dst := some 17, op := Op.call { callee := Callee.value (Operand.func 51), args := #[Operand.tmp 16], argTypes := #[44] }, type := 4, pos := "ref.go:31", after := #[{ on := 0, ground := Ground.data }], guard := none }
abbrev zrsz2 : Oper := { dst := some 18, op := Op.unOp UnOp.not 4 (Operand.tmp 17), type := 4, pos := "ref.go:31", after := #[{ on := 1, ground := Ground.data }], guard := none }
abbrev zrsz3 : Oper := { dst := some 19, op := Op.move (Operand.tmp 18), type := 4, pos := "ref.go:31", after := #[{ on := 2, ground := Ground.data }, { on := 1, ground := Ground.chain }], guard := none }
abbrev zrsz4 : Oper := { dst := some 20, op := Op.move (Operand.tmp 7), type := 3, pos := "ref.go:31", after := #[{ on := 3, ground := Ground.guard }], guard := some (3, false) }
abbrev zrsz5 : Oper := { dst := some 21, op := Op.binOp BinOp.gtr 3 (Operand.tmp 20) (Operand.const (Value.int IntKind.i64 0)) 3, type := 4, pos := "ref.go:31", after := #[{ on := 4, ground := Ground.data }, { on := 3, ground := Ground.guard }], guard := some (3, false) }
abbrev zrsz6 : Oper := { dst := some 22, op := Op.move (Operand.tmp 21), type := 4, pos := "ref.go:31", after := #[{ on := 5, ground := Ground.data }, { on := 3, ground := Ground.chain }, { on := 3, ground := Ground.guard }], guard := some (3, false) }
abbrev zrsz7 : Oper := { dst := some 23, op := Op.move (Operand.tmp 0), type := 23, pos := "ref.go:31", after := #[{ on := 6, ground := Ground.guard }], guard := some (6, true) }
abbrev zrsz8 : Oper := { dst := some 24, op := Op.move (Operand.tmp 7), type := 3, pos := "ref.go:31", after := #[{ on := 6, ground := Ground.guard }], guard := some (6, true) }
abbrev zrsz9 : Oper := { dst := some 25, op := Op.binOp BinOp.sub 3 (Operand.tmp 24) (Operand.const (Value.int IntKind.i64 1)) 3, type := 3, pos := "ref.go:31", after := #[{ on := 8, ground := Ground.data }, { on := 6, ground := Ground.guard }], guard := some (6, true) }
abbrev zrsz10 : Oper := { dst := some 26, op := Op.indexAddr 23 (Operand.tmp 23) (Operand.tmp 25), type := 0, pos := "ref.go:31", after := #[{ on := 7, ground := Ground.data }, { on := 9, ground := Ground.data }, { on := 6, ground := Ground.guard }], guard := some (6, true) }
abbrev zrsz11 : Oper := { dst := some 27, op := Op.fieldAddr 44 (Operand.tmp 26) 0, type := 0, pos := "ref.go:31", after := #[{ on := 10, ground := Ground.data }, { on := 6, ground := Ground.guard }], guard := some (6, true) }
abbrev zrsz12 : Oper := { dst := some 28, op := Op.load 3 (Operand.tmp 27), type := 3, pos := "ref.go:31", after := #[{ on := 11, ground := Ground.data }, { on := 6, ground := Ground.guard }], guard := some (6, true) }
abbrev zrsz13 : Oper := { dst := some 29, op := Op.fieldAddr 44 (Operand.tmp 8) 0, type := 0, pos := "ref.go:31", after := #[{ on := 6, ground := Ground.guard }], guard := some (6, true) }
abbrev zrsz14 : Oper := { dst := some 30, op := Op.load 3 (Operand.tmp 29), type := 3, pos := "ref.go:31", after := #[{ on := 13, ground := Ground.data }, { on := 6, ground := Ground.guard }], guard := some (6, true) }
abbrev zrsz15 : Oper := { dst := some 31, op := Op.binOp BinOp.eql 3 (Operand.tmp 28) (Operand.tmp 30) 3, type := 4, pos := "ref.go:31", after := #[{ on := 12, ground := Ground.data }, { on := 14, ground := Ground.data }, { on := 6, ground := Ground.guard }], guard := some (6, true) }
abbrev zrsz16 : Oper := { dst := some 32, op := Op.move (Operand.tmp 31), type := 4, pos := "ref.go:31", after := #[{ on := 15, ground := Ground.data }, { on := 6, ground := Ground.chain }, { on := 6, ground := Ground.guard }], guard := some (6, true) }
abbrev zrsz17 : Oper := { dst := some 33, op := Op.move (Operand.tmp 0), type := 23, pos := "ref.go:31", after := #[{ on := 16, ground := Ground.guard }], guard := some (16, false) }
abbrev zrsz18 : Oper := { dst := some 34, op := Op.move (Operand.tmp 7), type := 3, pos := "ref.go:31", after := #[{ on := 16, ground := Ground.guard }], guard := some (16, false) }
abbrev zrsz19 : Oper := { dst := some 35, op := Op.binOp BinOp.sub 3 (Operand.tmp 34) (Operand.const (Value.int IntKind.i64 1)) 3, type := 3, pos := "ref.go:31", after := #[{ on := 18, ground := Ground.data }, { on := 16, ground := Ground.guard }], guard := some (16, false) }
abbrev zrsz20 : Oper := { dst := some 36, op := Op.indexAddr 23 (Operand.tmp 33) (Operand.tmp 35), type := 0, pos := "ref.go:31", after := #[{ on := 17, ground := Ground.data }, { on := 19, ground := Ground.data }, { on := 16, ground := Ground.guard }], guard := some (16, false) }
abbrev zrsz21 : Oper := { dst := some 37, op := Op.fieldAddr 44 (Operand.tmp 36) 0, type := 0, pos := "ref.go:31", after := #[{ on := 20, ground := Ground.data }, { on := 16, ground := Ground.guard }], guard := some (16, false) }
abbrev zrsz22 : Oper := { dst := some 38, op := Op.load 3 (Operand.tmp 37), type := 3, pos := "ref.go:31", after := #[{ on := 21, ground := Ground.data }, { on := 16, ground := Ground.guard }], guard := some (16, false) }
abbrev zrsz23 : Oper := { dst := some 39, op := Op.binOp BinOp.eql 3 (Operand.tmp 38) (Operand.const (Value.int IntKind.i64 3)) 3, type := 4, pos := "ref.go:31", after := #[{ on := 22, ground := Ground.data }, { on := 16, ground := Ground.guard }], guard := some (16, false) }
abbrev zrsz24 : Oper := { dst := some 40, op := Op.move (Operand.tmp 39), type := 4, pos := "ref.go:31", after := #[{ on := 23, ground := Ground.data }, { on := 16, ground := Ground.chain }, { on := 16, ground := Ground.guard }], guard := some (16, false) }
abbrev zrsz25 : Oper := { dst := some 41, op := Op.fieldAddr 44 (Operand.tmp 8) 0, type := 0, pos := "ref.go:31", after := #[{ on := 24, ground := Ground.guard }], guard := some (24, true) }
abbrev zrsz26 : Oper := { dst := some 42, op := Op.load 3 (Operand.tmp 41), type := 3, pos := "ref.go:31", after := #[{ on := 25, ground := Ground.data }, { on := 24, ground := Ground.guard }], guard := some (24, true) }
abbrev zrsz27 : Oper := { dst := some 43, op := Op.binOp BinOp.eql 3 (Operand.tmp 42) (Operand.const (Value.int IntKind.i64 2)) 3, type := 4, pos := "ref.go:31", after := #[{ on := 26, ground := Ground.data }, { on := 24, ground := Ground.guard }], guard := some (24, true) }
abbrev zrsz28 : Oper := { dst := some 44, op := Op.pick (Operand.tmp 40) (Operand.tmp 43) (Operand.const (Value.bool false)), type := 4, pos := "ref.go:31", after := #[{ on := 24, ground := Ground.data }, { on := 27, ground := Ground.data }, { on := 16, ground := Ground.guard }], guard := some (16, false) }
abbrev zrsz29 : Oper := { dst := some 45, op := Op.pick (Operand.tmp 32) (Operand.const (Value.bool true)) (Operand.tmp 44), type := 4, pos := "ref.go:31", after := #[{ on := 16, ground := Ground.data }, { on := 28, ground := Ground.data }, { on := 6, ground := Ground.guard }], guard := some (6, true) }
abbrev zrsz30 : Oper := { dst := some 46, op := Op.pick (Operand.tmp 22) (Operand.tmp 45) (Operand.const (Value.bool false)), type := 4, pos := "ref.go:31", after := #[{ on := 6, ground := Ground.data }, { on := 29, ground := Ground.data }, { on := 3, ground := Ground.guard }], guard := some (3, false) }
abbrev zrsz31 : Oper := { dst := some 47, op := Op.pick (Operand.tmp 19) (Operand.const (Value.bool true)) (Operand.tmp 46), type := 4, pos := "ref.go:31", after := #[{ on := 3, ground := Ground.data }, { on := 30, ground := Ground.data }], guard := none }
theorem sizeL_last {l : List Pt} {j : Nat} {p : Pt} {f t k : Int} (hp : l[j]? = some p) (h : sizeL (l.take (j + 1)) = some (f, t, k)) : p.kind = k := by
  rw [sizeL_take hp] at h
  cases h0 : sizeL (l.take j) with
  | none => rw [h0] at h; cases h
  | some s =>
    obtain ⟨f0, t0, k0⟩ := s
    rw [h0] at h
    simp only [sizeStep] at h
    by_cases hfit : fitsB p = true ∧ followsB p.kind k0 = true
    · rw [if_pos hfit] at h
      by_cases hlim : 1099511627776 < (if p.kind = 2 then f0 else f0 + p.n) ∨ 1099511627776 < (if p.kind = 3 then t0 else t0 + p.n)
      · rw [if_pos hlim] at h; cases h
      · rw [if_neg hlim] at h
        simp only [Option.some.injEq, Prod.mk.injEq] at h
        exact h.2.2
    · rw [if_neg hfit] at h; cases h
theorem fits_kind {p : Pt} (h : fitsB p = true) : p.kind = 1 ∨ p.kind = 2 ∨ p.kind = 3 := by
  unfold fitsB at h
  simp only [Bool.and_eq_true, Bool.or_eq_true, decide_eq_true_eq] at h
  rcases h.2 with h2 | h2
  · rcases h2.1 with h3 | h3
    · exact .inl h3
    · exact .inr (.inr h3)
  · exact .inr (.inl h2.1)
set_option maxRecDepth 100000 in
set_option maxHeartbeats 4000000 in
theorem rsize_any (a : Option Addr) (l : List Pt) (c : Nat) (w : World) (hp : PtsAt w a l) (hc : l.length ≤ maxLen) (hs : ∀ p ∈ l, p.text.size ≤ 281474976710656) :
    Calls Tryd.prog 30 #[.slice a l.length c] w fun r w' => r = .returned (szVal l) ∧ Below w.heap.size w w' := by
  have HP := hide hp
  have HS := hide hs
  obtain ⟨n, hn⟩ : ∃ n, l.length = n := ⟨_, rfl⟩
  rw [hn] at hc ⊢
  have HN := hide hn
  have nI : (n : Int) ≤ 9223372036854775807 := by unfold maxLen at hc; omega
  clear hp hs hn
  go_enter Tryd.func30, Tryd.ntmps30
  go_wp2_with fail
  go_loopw [5, 6, 11] (fun f t i wr => ∃ k : Nat, k ≤ n ∧ i = .int .i64 (k : Int) ∧ (∃ fv tv lv : Int, f = .int .i64 fv ∧ t = .int .i64 tv ∧ Hid (sizeL (l.take k) = some (fv, tv, lv))) ∧ Hid (Below w.heap.size w wr)) (fun _ _ i _ => ((n : Int) - intOf i).toNat)
  case atStart => exact ⟨0, by omega, by simp, ⟨0, 0, 0, by simp, by simp, hide (by simp [sizeL])⟩, hide (Below.refl _ _)⟩
  case round =>
    obtain ⟨k, hk, rfl, ⟨fv, tv, lv, rfl, rfl, HSZ⟩, HB⟩ := hrel
    by_cases hlt : k < n
    · have kI : (k : Int) < (n : Int) := by omega
      obtain ⟨p, hpk⟩ : ∃ p, l[k]? = some p := ⟨_, List.getElem?_eq_getElem (by have := unhide HN; omega)⟩
      obtain ⟨b, off, rfl, e0, e1, e2⟩ := (unhide HP).at_ (unhide HB) hpk
      have HPK := hide hpk
      have HST := hide (sizeL_take hpk)
      rw [unhide HSZ] at HST
      obtain ⟨b1, b2, b3, b4⟩ := sizeL_bounds _ _ _ _ (unhide HSZ)
      have hps := unhide HS p (List.mem_of_getElem? hpk)
      have hbA : Below wr.heap.size wr (wr.alloc (.cells #[.int .i64 p.kind, .int .i64 p.n, .string p.text] 44)) := (Below.refl _ _).alloc (Nat.le_refl _) _
      have HBA := hide ((unhide HB).trans (hbA.mono (unhide HB).size))
      have HBN := hide hbA
      have HRW := hide (RowAt.new wr 44 [.int .i64 p.kind, .int .i64 p.n, .string p.text])
      have HFA : Hid (∀ W, Calls Tryd.prog 51 #[.agg #[.int .i64 p.kind, .int .i64 p.n, .string p.text]] W fun r w' => r = .returned (.bool (fitsB p)) ∧ Below W.heap.size W w') := hide (fun W => rfits_any p W hps)
      clear hpk hps hbA
      go_wp2_with fail
      obtain ⟨wA, hA⟩ : ∃ wA, wr.alloc (.cells #[.int .i64 p.kind, .int .i64 p.n, .string p.text] 44) = wA := ⟨_, rfl⟩
      rw [hA] at HBA HBN HRW ⊢
      clear hA e0 e1 e2
      obtain ⟨bb, hbb⟩ : ∃ bb, wr.heap.size = bb := ⟨_, rfl⟩
      have HBB := hide hbb
      rw [hbb] at HRW ⊢
      clear hbb
      cases hfb : fitsB p with
      | false =>
        have HFI : Hid (∀ W, Below wA.heap.size wA W → Calls Tryd.prog 51 #[.agg #[.int .i64 p.kind, .int .i64 p.n, .string p.text]] W fun r w' => r = .returned (.bool false) ∧ Below W.heap.size W w') := hide (fun W _ => by have := unhide HFA W; rw [hfb] at this; exact this)
        have HSS : Hid (∀ W, Below wA.heap.size wA W → W.cell? ⟨bb, 0, none⟩ = some (.int .i64 p.kind) ∧ W.cell? ⟨bb, 1, none⟩ = some (.int .i64 p.n) ∧ W.cell? ⟨bb, 2, none⟩ = some (.string p.text)) := hide (fun W hW => ⟨((unhide HRW).below hW (unhide HRW).lt).cell 0, ((unhide HRW).below hW (unhide HRW).lt).cell 1, ((unhide HRW).below hW (unhide HRW).lt).cell 2⟩)
        have HFN := hide hfb
        clear hfb HFA HRW HBN
        refine wp_region_T (S := fun W => W.cell? ⟨bb, 0, none⟩ = some (.int .i64 p.kind) ∧ W.cell? ⟨bb, 1, none⟩ = some (.int .i64 p.n) ∧ W.cell? ⟨bb, 2, none⟩ = some (.string p.text)) (fun i => decide (i < 32)) (by kernel_rfl) (unhide HSS _ (Below.refl _ _).drew) (fun hHeld => ?_)
        refine wpAnyT_take (i := 0) (oi := zrsz0) (v := .agg #[.int .i64 p.kind, .int .i64 p.n, .string p.text]) rfl (by kernel_rfl) (by kernel_rfl) (by kernel_rfl) (by kernel_rfl) (fun _ _ _ h => h) (Or.inl ⟨by rfl, ?_⟩) hHeld ?_
        · intro w hSw
          obtain ⟨s0, s1, s2⟩ := hSw
          first
            | rfl
            | (go_simp; done)
        try simp only [Act.put, List.setIfInBounds_toArray, List.set_cons_zero, List.set_cons_succ]
        refine wpAnyT_one (i := 1) (o := zrsz1) (by kernel_rfl) rfl (fun K hK => ?_)
        go_simp
        refine Calls.mono (unhide HFI _ (Below.refl _ _).drew) ?_
        rintro r w2 ⟨rfl, hb2⟩
        have HK2 := hide ((Below.refl wA.heap.size wA).drew.trans (hb2.mono (Below.refl wA.heap.size wA).drew.size))
        clear hb2
        go_wp2_with fail
        refine hK.out _ _ (fun _ => unhide HSS _ (unhide HK2)) ?_
        clear hK K
        try simp only [Act.put, List.setIfInBounds_toArray, List.set_cons_zero, List.set_cons_succ]
        refine wpAnyT_take (i := 2) (oi := zrsz2) (v := .bool true) rfl (by kernel_rfl) (by kernel_rfl) (by kernel_rfl) (by kernel_rfl) (fun _ _ _ h => h) (Or.inl ⟨by rfl, ?_⟩) (unhide HSS _ (unhide HK2)) ?_
        · intro w hSw
          obtain ⟨s0, s1, s2⟩ := hSw
          first
            | rfl
            | (go_simp; done)
        try simp only [Act.put, List.setIfInBounds_toArray, List.set_cons_zero, List.set_cons_succ]
        refine wpAnyT_take (i := 3) (oi := zrsz3) (v := .bool true) rfl (by kernel_rfl) (by kernel_rfl) (by kernel_rfl) (by kernel_rfl) (fun _ _ _ h => h) (Or.inl ⟨by rfl, ?_⟩) (unhide HSS _ (unhide HK2)) ?_
        · intro w hSw
          obtain ⟨s0, s1, s2⟩ := hSw
          first
            | rfl
            | (go_simp; done)
        try simp only [Act.put, List.setIfInBounds_toArray, List.set_cons_zero, List.set_cons_succ]
        refine wpAnyT_take (i := 4) (oi := zrsz4) (v := undef) rfl (by kernel_rfl) (by kernel_rfl) (by kernel_rfl) (by kernel_rfl) (fun _ _ _ h => h) (Or.inr ⟨by rfl, rfl⟩) (unhide HSS _ (unhide HK2)) ?_
        try simp only [Act.put, List.setIfInBounds_toArray, List.set_cons_zero, List.set_cons_succ]
        refine wpAnyT_take (i := 5) (oi := zrsz5) (v := undef) rfl (by kernel_rfl) (by kernel_rfl) (by kernel_rfl) (by kernel_rfl) (fun _ _ _ h => h) (Or.inr ⟨by rfl, rfl⟩) (unhide HSS _ (unhide HK2)) ?_
        try simp only [Act.put, List.setIfInBounds_toArray, List.set_cons_zero, List.set_cons_succ]
        refine wpAnyT_take (i := 6) (oi := zrsz6) (v := undef) rfl (by kernel_rfl) (by kernel_rfl) (by kernel_rfl) (by kernel_rfl) (fun _ _ _ h => h) (Or.inr ⟨by rfl, rfl⟩) (unhide HSS _ (unhide HK2)) ?_
        try simp only [Act.put, List.setIfInBounds_toArray, List.set_cons_zero, List.set_cons_succ]
        refine wpAnyT_take (i := 7) (oi := zrsz7) (v := undef) rfl (by kernel_rfl) (by kernel_rfl) (by kernel_rfl) (by kernel_rfl) (fun _ _ _ h => h) (Or.inr ⟨by rfl, rfl⟩) (unhide HSS _ (unhide HK2)) ?_
        try simp only [Act.put, List.setIfInBounds_toArray, List.set_cons_zero, List.set_cons_succ]
        refine wpAnyT_take (i := 8) (oi := zrsz8) (v := undef) rfl (by kernel_rfl) (by kernel_rfl) (by kernel_rfl) (by kernel_rfl) (fun _ _ _ h => h) (Or.inr ⟨by rfl, rfl⟩) (unhide HSS _ (unhide HK2)) ?_
        try simp only [Act.put, List.setIfInBounds_toArray, List.set_cons_zero, List.set_cons_succ]
        refine wpAnyT_take (i := 9) (oi := zrsz9) (v := undef) rfl (by kernel_rfl) (by kernel_rfl) (by kernel_rfl) (by kernel_rfl) (fun _ _ _ h => h) (Or.inr ⟨by rfl, rfl⟩) (unhide HSS _ (unhide HK2)) ?_
        try simp only [Act.put, List.setIfInBounds_toArray, List.set_cons_zero, List.set_cons_succ]
        refine wpAnyT_take (i := 10) (oi := zrsz10) (v := undef) rfl (by kernel_rfl) (by kernel_rfl) (by kernel_rfl) (by kernel_rfl) (fun _ _ _ h => h) (Or.inr ⟨by rfl, rfl⟩) (unhide HSS _ (unhide HK2)) ?_
        try simp only [Act.put, List.setIfInBounds_toArray, List.set_cons_zero, List.set_cons_succ]
        refine wpAnyT_take (i := 11) (oi := zrsz11) (v := undef) rfl (by kernel_rfl) (by kernel_rfl) (by kernel_rfl) (by kernel_rfl) (fun _ _ _ h => h) (Or.inr ⟨by rfl, rfl⟩) (unhide HSS _ (unhide HK2)) ?_
        try simp only [Act.put, List.setIfInBounds_toArray, List.set_cons_zero, List.set_cons_succ]
        refine wpAnyT_take (i := 12) (oi := zrsz12) (v := undef) rfl (by kernel_rfl) (by kernel_rfl) (by kernel_rfl) (by kernel_rfl) (fun _ _ _ h => h) (Or.inr ⟨by rfl, rfl⟩) (unhide HSS _ (unhide HK2)) ?_
        try simp only [Act.put, List.setIfInBounds_toArray, List.set_cons_zero, List.set_cons_succ]
        refine wpAnyT_take (i := 13) (oi := zrsz13) (v := undef) rfl (by kernel_rfl) (by kernel_rfl) (by kernel_rfl) (by kernel_rfl) (fun _ _ _ h => h) (Or.inr ⟨by rfl, rfl⟩) (unhide HSS _ (unhide HK2)) ?_
        try simp only [Act.put, List.setIfInBounds_toArray, List.set_cons_zero, List.set_cons_succ]
        refine wpAnyT_take (i := 14) (oi := zrsz14) (v := undef) rfl (by kernel_rfl) (by kernel_rfl) (by kernel_rfl) (by kernel_rfl) (fun _ _ _ h => h) (Or.inr ⟨by rfl, rfl⟩) (unhide HSS _ (unhide HK2)) ?_
        try simp only [Act.put, List.setIfInBounds_toArray, List.set_cons_zero, List.set_cons_succ]
        refine wpAnyT_take (i := 15) (oi := zrsz15) (v := undef) rfl (by kernel_rfl) (by kernel_rfl) (by kernel_rfl) (by kernel_rfl) (fun _ _ _ h => h) (Or.inr ⟨by rfl, rfl⟩) (unhide HSS _ (unhide HK2)) ?_
        try simp only [Act.put, List.setIfInBounds_toArray, List.set_cons_zero, List.set_cons_succ]
        refine wpAnyT_take (i := 16) (oi := zrsz16) (v := undef) rfl (by kernel_rfl) (by kernel_rfl) (by kernel_rfl) (by kernel_rfl) (fun _ _ _ h => h) (Or.inr ⟨by rfl, rfl⟩) (unhide HSS _ (unhide HK2)) ?_
        try simp only [Act.put, List.setIfInBounds_toArray, List.set_cons_zero, List.set_cons_succ]
        refine wpAnyT_take (i := 17) (oi := zrsz17) (v := undef) rfl (by kernel_rfl) (by kernel_rfl) (by kernel_rfl) (by kernel_rfl) (fun _ _ _ h => h) (Or.inr ⟨by rfl, rfl⟩) (unhide HSS _ (unhide HK2)) ?_
        try simp only [Act.put, List.setIfInBounds_toArray, List.set_cons_zero, List.set_cons_succ]
        refine wpAnyT_take (i := 18) (oi := zrsz18) (v := undef) rfl (by kernel_rfl) (by kernel_rfl) (by kernel_rfl) (by kernel_rfl) (fun _ _ _ h => h) (Or.inr ⟨by rfl, rfl⟩) (unhide HSS _ (unhide HK2)) ?_
        try simp only [Act.put, List.setIfInBounds_toArray, List.set_cons_zero, List.set_cons_succ]
        refine wpAnyT_take (i := 19) (oi := zrsz19) (v := undef) rfl (by kernel_rfl) (by kernel_rfl) (by kernel_rfl) (by kernel_rfl) (fun _ _ _ h => h) (Or.inr ⟨by rfl, rfl⟩) (unhide HSS _ (unhide HK2)) ?_
        try simp only [Act.put, List.setIfInBounds_toArray, List.set_cons_zero, List.set_cons_succ]
        refine wpAnyT_take (i := 20) (oi := zrsz20) (v := undef) rfl (by kernel_rfl) (by kernel_rfl) (by kernel_rfl) (by kernel_rfl) (fun _ _ _ h => h) (Or.inr ⟨by rfl, rfl⟩) (unhide HSS _ (unhide HK2)) ?_
        try simp only [Act.put, List.setIfInBounds_toArray, List.set_cons_zero, List.set_cons_succ]
        refine wpAnyT_take (i := 21) (oi := zrsz21) (v := undef) rfl (by kernel_rfl) (by kernel_rfl) (by kernel_rfl) (by kernel_rfl) (fun _ _ _ h => h) (Or.inr ⟨by rfl, rfl⟩) (unhide HSS _ (unhide HK2)) ?_
        try simp only [Act.put, List.setIfInBounds_toArray, List.set_cons_zero, List.set_cons_succ]
        refine wpAnyT_take (i := 22) (oi := zrsz22) (v := undef) rfl (by kernel_rfl) (by kernel_rfl) (by kernel_rfl) (by kernel_rfl) (fun _ _ _ h => h) (Or.inr ⟨by rfl, rfl⟩) (unhide HSS _ (unhide HK2)) ?_
        try simp only [Act.put, List.setIfInBounds_toArray, List.set_cons_zero, List.set_cons_succ]
        refine wpAnyT_take (i := 23) (oi := zrsz23) (v := undef) rfl (by kernel_rfl) (by kernel_rfl) (by kernel_rfl) (by kernel_rfl) (fun _ _ _ h => h) (Or.inr ⟨by rfl, rfl⟩) (unhide HSS _ (unhide HK2)) ?_
        try simp only [Act.put, List.setIfInBounds_toArray, List.set_cons_zero, List.set_cons_succ]
        refine wpAnyT_take (i := 24) (oi := zrsz24) (v := undef) rfl (by kernel_rfl) (by kernel_rfl) (by kernel_rfl) (by kernel_rfl) (fun _ _ _ h => h) (Or.inr ⟨by rfl, rfl⟩) (unhide HSS _ (unhide HK2)) ?_
        try simp only [Act.put, List.setIfInBounds_toArray, List.set_cons_zero, List.set_cons_succ]
        refine wpAnyT_take (i := 25) (oi := zrsz25) (v := undef) rfl (by kernel_rfl) (by kernel_rfl) (by kernel_rfl) (by kernel_rfl) (fun _ _ _ h => h) (Or.inr ⟨by rfl, rfl⟩) (unhide HSS _ (unhide HK2)) ?_
        try simp only [Act.put, List.setIfInBounds_toArray, List.set_cons_zero, List.set_cons_succ]
        refine wpAnyT_take (i := 26) (oi := zrsz26) (v := undef) rfl (by kernel_rfl) (by kernel_rfl) (by kernel_rfl) (by kernel_rfl) (fun _ _ _ h => h) (Or.inr ⟨by rfl, rfl⟩) (unhide HSS _ (unhide HK2)) ?_
        try simp only [Act.put, List.setIfInBounds_toArray, List.set_cons_zero, List.set_cons_succ]
        refine wpAnyT_take (i := 27) (oi := zrsz27) (v := undef) rfl (by kernel_rfl) (by kernel_rfl) (by kernel_rfl) (by kernel_rfl) (fun _ _ _ h => h) (Or.inr ⟨by rfl, rfl⟩) (unhide HSS _ (unhide HK2)) ?_
        try simp only [Act.put, List.setIfInBounds_toArray, List.set_cons_zero, List.set_cons_succ]
        refine wpAnyT_take (i := 28) (oi := zrsz28) (v := undef) rfl (by kernel_rfl) (by kernel_rfl) (by kernel_rfl) (by kernel_rfl) (fun _ _ _ h => h) (Or.inr ⟨by rfl, rfl⟩) (unhide HSS _ (unhide HK2)) ?_
        try simp only [Act.put, List.setIfInBounds_toArray, List.set_cons_zero, List.set_cons_succ]
        refine wpAnyT_take (i := 29) (oi := zrsz29) (v := undef) rfl (by kernel_rfl) (by kernel_rfl) (by kernel_rfl) (by kernel_rfl) (fun _ _ _ h => h) (Or.inr ⟨by rfl, rfl⟩) (unhide HSS _ (unhide HK2)) ?_
        try simp only [Act.put, List.setIfInBounds_toArray, List.set_cons_zero, List.set_cons_succ]
        refine wpAnyT_take (i := 30) (oi := zrsz30) (v := undef) rfl (by kernel_rfl) (by kernel_rfl) (by kernel_rfl) (by kernel_rfl) (fun _ _ _ h => h) (Or.inr ⟨by rfl, rfl⟩) (unhide HSS _ (unhide HK2)) ?_
        try simp only [Act.put, List.setIfInBounds_toArray, List.set_cons_zero, List.set_cons_succ]
        refine wpAnyT_take (i := 31) (oi := zrsz31) (v := .bool true) rfl (by kernel_rfl) (by kernel_rfl) (by kernel_rfl) (by kernel_rfl) (fun _ _ _ h => h) (Or.inl ⟨by rfl, ?_⟩) (unhide HSS _ (unhide HK2)) ?_
        · intro w hSw
          obtain ⟨s0, s1, s2⟩ := hSw
          first
            | rfl
            | (go_simp; done)
        try simp only [Act.put, List.setIfInBounds_toArray, List.set_cons_zero, List.set_cons_succ]
        refine wpAnyT_done (by kernel_rfl) ?_ _
        have HB2 := hide ((unhide HBA).trans ((unhide HK2).mono (unhide HBA).size))
        obtain ⟨r0, r1, r2⟩ := unhide HSS _ (unhide HK2)
        clear HSS HFI HBA HK2 r2
        have HB3 := HB2
        clear HB2
        have HNO : Hid (sizeL (l.take (k + 1)) = none) := hide (by rw [unhide HST]; simp [sizeStep, unhide HFN])
        go_wp2_with fail
        go_ret3
        have hz := sizeL_none (unhide HNO)
        exact ⟨by unfold szVal; rw [hz]; rfl, unhide HB3⟩
      | true =>
        have HFI : Hid (∀ W, Below wA.heap.size wA W → Calls Tryd.prog 51 #[.agg #[.int .i64 p.kind, .int .i64 p.n, .string p.text]] W fun r w' => r = .returned (.bool true) ∧ Below W.heap.size W w') := hide (fun W _ => by have := unhide HFA W; rw [hfb] at this; exact this)
        obtain ⟨n1, n2⟩ := fits_bounds hfb
        have HFB := hide hfb
        clear hfb HFA
        rcases Nat.eq_zero_or_pos k with hk0 | hk0
        · subst hk0
          have HFO : Hid (followsB p.kind lv = true) := hide (by
            have h1 := unhide HSZ
            simp [sizeL] at h1
            obtain ⟨_, _, rfl⟩ := h1
            have h2 := fits_kind (unhide HFB)
            unfold followsB
            simp
            omega)
          have HSS : Hid (∀ W, Below wA.heap.size wA W → W.cell? ⟨bb, 0, none⟩ = some (.int .i64 p.kind) ∧ W.cell? ⟨bb, 1, none⟩ = some (.int .i64 p.n) ∧ W.cell? ⟨bb, 2, none⟩ = some (.string p.text)) := hide (fun W hW => ⟨((unhide HRW).below hW (unhide HRW).lt).cell 0, ((unhide HRW).below hW (unhide HRW).lt).cell 1, ((unhide HRW).below hW (unhide HRW).lt).cell 2⟩)
          clear HRW HBN
          simp only [show ((0 : Nat) : Int) = 0 from rfl]
          refine wp_region_T (S := fun W => W.cell? ⟨bb, 0, none⟩ = some (.int .i64 p.kind) ∧ W.cell? ⟨bb, 1, none⟩ = some (.int .i64 p.n) ∧ W.cell? ⟨bb, 2, none⟩ = some (.string p.text)) (fun i => decide (i < 32)) (by kernel_rfl) (unhide HSS _ (Below.refl _ _).drew) (fun hHeld => ?_)
          refine wpAnyT_take (i := 0) (oi := zrsz0) (v := .agg #[.int .i64 p.kind, .int .i64 p.n, .string p.text]) rfl (by kernel_rfl) (by kernel_rfl) (by kernel_rfl) (by kernel_rfl) (fun _ _ _ h => h) (Or.inl ⟨by rfl, ?_⟩) hHeld ?_
          · intro w hSw
            obtain ⟨s0, s1, s2⟩ := hSw
            first
              | rfl
              | (go_simp; done)
          try simp only [Act.put, List.setIfInBounds_toArray, List.set_cons_zero, List.set_cons_succ]
          refine wpAnyT_one (i := 1) (o := zrsz1) (by kernel_rfl) rfl (fun K hK => ?_)
          go_simp
          refine Calls.mono (unhide HFI _ (Below.refl _ _).drew) ?_
          rintro r w2 ⟨rfl, hb2⟩
          have HK2 := hide ((Below.refl wA.heap.size wA).drew.trans (hb2.mono (Below.refl wA.heap.size wA).drew.size))
          clear hb2
          go_wp2_with fail
          refine hK.out _ _ (fun _ => unhide HSS _ (unhide HK2)) ?_
          clear hK K
          try simp only [Act.put, List.setIfInBounds_toArray, List.set_cons_zero, List.set_cons_succ]
          refine wpAnyT_take (i := 2) (oi := zrsz2) (v := .bool false) rfl (by kernel_rfl) (by kernel_rfl) (by kernel_rfl) (by kernel_rfl) (fun _ _ _ h => h) (Or.inl ⟨by rfl, ?_⟩) (unhide HSS _ (unhide HK2)) ?_
          · intro w hSw
            obtain ⟨s0, s1, s2⟩ := hSw
            first
              | rfl
              | (go_simp; done)
          try simp only [Act.put, List.setIfInBounds_toArray, List.set_cons_zero, List.set_cons_succ]
          refine wpAnyT_take (i := 3) (oi := zrsz3) (v := .bool false) rfl (by kernel_rfl) (by kernel_rfl) (by kernel_rfl) (by kernel_rfl) (fun _ _ _ h => h) (Or.inl ⟨by rfl, ?_⟩) (unhide HSS _ (unhide HK2)) ?_
          · intro w hSw
            obtain ⟨s0, s1, s2⟩ := hSw
            first
              | rfl
              | (go_simp; done)
          try simp only [Act.put, List.setIfInBounds_toArray, List.set_cons_zero, List.set_cons_succ]
          refine wpAnyT_take (i := 4) (oi := zrsz4) (v := .int .i64 0) rfl (by kernel_rfl) (by kernel_rfl) (by kernel_rfl) (by kernel_rfl) (fun _ _ _ h => h) (Or.inl ⟨by rfl, ?_⟩) (unhide HSS _ (unhide HK2)) ?_
          · intro w hSw
            obtain ⟨s0, s1, s2⟩ := hSw
            first
              | rfl
              | (go_simp; done)
          try simp only [Act.put, List.setIfInBounds_toArray, List.set_cons_zero, List.set_cons_succ]
          refine wpAnyT_take (i := 5) (oi := zrsz5) (v := .bool false) rfl (by kernel_rfl) (by kernel_rfl) (by kernel_rfl) (by kernel_rfl) (fun _ _ _ h => h) (Or.inl ⟨by rfl, ?_⟩) (unhide HSS _ (unhide HK2)) ?_
          · intro w hSw
            obtain ⟨s0, s1, s2⟩ := hSw
            first
              | rfl
              | (go_simp; done)
          try simp only [Act.put, List.setIfInBounds_toArray, List.set_cons_zero, List.set_cons_succ]
          refine wpAnyT_take (i := 6) (oi := zrsz6) (v := .bool false) rfl (by kernel_rfl) (by kernel_rfl) (by kernel_rfl) (by kernel_rfl) (fun _ _ _ h => h) (Or.inl ⟨by rfl, ?_⟩) (unhide HSS _ (unhide HK2)) ?_
          · intro w hSw
            obtain ⟨s0, s1, s2⟩ := hSw
            first
              | rfl
              | (go_simp; done)
          try simp only [Act.put, List.setIfInBounds_toArray, List.set_cons_zero, List.set_cons_succ]
          refine wpAnyT_take (i := 7) (oi := zrsz7) (v := undef) rfl (by kernel_rfl) (by kernel_rfl) (by kernel_rfl) (by kernel_rfl) (fun _ _ _ h => h) (Or.inr ⟨by rfl, rfl⟩) (unhide HSS _ (unhide HK2)) ?_
          try simp only [Act.put, List.setIfInBounds_toArray, List.set_cons_zero, List.set_cons_succ]
          refine wpAnyT_take (i := 8) (oi := zrsz8) (v := undef) rfl (by kernel_rfl) (by kernel_rfl) (by kernel_rfl) (by kernel_rfl) (fun _ _ _ h => h) (Or.inr ⟨by rfl, rfl⟩) (unhide HSS _ (unhide HK2)) ?_
          try simp only [Act.put, List.setIfInBounds_toArray, List.set_cons_zero, List.set_cons_succ]
          refine wpAnyT_take (i := 9) (oi := zrsz9) (v := undef) rfl (by kernel_rfl) (by kernel_rfl) (by kernel_rfl) (by kernel_rfl) (fun _ _ _ h => h) (Or.inr ⟨by rfl, rfl⟩) (unhide HSS _ (unhide HK2)) ?_
          try simp only [Act.put, List.setIfInBounds_toArray, List.set_cons_zero, List.set_cons_succ]
          refine wpAnyT_take (i := 10) (oi := zrsz10) (v := undef) rfl (by kernel_rfl) (by kernel_rfl) (by kernel_rfl) (by kernel_rfl) (fun _ _ _ h => h) (Or.inr ⟨by rfl, rfl⟩) (unhide HSS _ (unhide HK2)) ?_
          try simp only [Act.put, List.setIfInBounds_toArray, List.set_cons_zero, List.set_cons_succ]
          refine wpAnyT_take (i := 11) (oi := zrsz11) (v := undef) rfl (by kernel_rfl) (by kernel_rfl) (by kernel_rfl) (by kernel_rfl) (fun _ _ _ h => h) (Or.inr ⟨by rfl, rfl⟩) (unhide HSS _ (unhide HK2)) ?_
          try simp only [Act.put, List.setIfInBounds_toArray, List.set_cons_zero, List.set_cons_succ]
          refine wpAnyT_take (i := 12) (oi := zrsz12) (v := undef) rfl (by kernel_rfl) (by kernel_rfl) (by kernel_rfl) (by kernel_rfl) (fun _ _ _ h => h) (Or.inr ⟨by rfl, rfl⟩) (unhide HSS _ (unhide HK2)) ?_
          try simp only [Act.put, List.setIfInBounds_toArray, List.set_cons_zero, List.set_cons_succ]
          refine wpAnyT_take (i := 13) (oi := zrsz13) (v := undef) rfl (by kernel_rfl) (by kernel_rfl) (by kernel_rfl) (by kernel_rfl) (fun _ _ _ h => h) (Or.inr ⟨by rfl, rfl⟩) (unhide HSS _ (unhide HK2)) ?_
          try simp only [Act.put, List.setIfInBounds_toArray, List.set_cons_zero, List.set_cons_succ]
          refine wpAnyT_take (i := 14) (oi := zrsz14) (v := undef) rfl (by kernel_rfl) (by kernel_rfl) (by kernel_rfl) (by kernel_rfl) (fun _ _ _ h => h) (Or.inr ⟨by rfl, rfl⟩) (unhide HSS _ (unhide HK2)) ?_
          try simp only [Act.put, List.setIfInBounds_toArray, List.set_cons_zero, List.set_cons_succ]
          refine wpAnyT_take (i := 15) (oi := zrsz15) (v := undef) rfl (by kernel_rfl) (by kernel_rfl) (by kernel_rfl) (by kernel_rfl) (fun _ _ _ h => h) (Or.inr ⟨by rfl, rfl⟩) (unhide HSS _ (unhide HK2)) ?_
          try simp only [Act.put, List.setIfInBounds_toArray, List.set_cons_zero, List.set_cons_succ]
          refine wpAnyT_take (i := 16) (oi := zrsz16) (v := undef) rfl (by kernel_rfl) (by kernel_rfl) (by kernel_rfl) (by kernel_rfl) (fun _ _ _ h => h) (Or.inr ⟨by rfl, rfl⟩) (unhide HSS _ (unhide HK2)) ?_
          try simp only [Act.put, List.setIfInBounds_toArray, List.set_cons_zero, List.set_cons_succ]
          refine wpAnyT_take (i := 17) (oi := zrsz17) (v := undef) rfl (by kernel_rfl) (by kernel_rfl) (by kernel_rfl) (by kernel_rfl) (fun _ _ _ h => h) (Or.inr ⟨by rfl, rfl⟩) (unhide HSS _ (unhide HK2)) ?_
          try simp only [Act.put, List.setIfInBounds_toArray, List.set_cons_zero, List.set_cons_succ]
          refine wpAnyT_take (i := 18) (oi := zrsz18) (v := undef) rfl (by kernel_rfl) (by kernel_rfl) (by kernel_rfl) (by kernel_rfl) (fun _ _ _ h => h) (Or.inr ⟨by rfl, rfl⟩) (unhide HSS _ (unhide HK2)) ?_
          try simp only [Act.put, List.setIfInBounds_toArray, List.set_cons_zero, List.set_cons_succ]
          refine wpAnyT_take (i := 19) (oi := zrsz19) (v := undef) rfl (by kernel_rfl) (by kernel_rfl) (by kernel_rfl) (by kernel_rfl) (fun _ _ _ h => h) (Or.inr ⟨by rfl, rfl⟩) (unhide HSS _ (unhide HK2)) ?_
          try simp only [Act.put, List.setIfInBounds_toArray, List.set_cons_zero, List.set_cons_succ]
          refine wpAnyT_take (i := 20) (oi := zrsz20) (v := undef) rfl (by kernel_rfl) (by kernel_rfl) (by kernel_rfl) (by kernel_rfl) (fun _ _ _ h => h) (Or.inr ⟨by rfl, rfl⟩) (unhide HSS _ (unhide HK2)) ?_
          try simp only [Act.put, List.setIfInBounds_toArray, List.set_cons_zero, List.set_cons_succ]
          refine wpAnyT_take (i := 21) (oi := zrsz21) (v := undef) rfl (by kernel_rfl) (by kernel_rfl) (by kernel_rfl) (by kernel_rfl) (fun _ _ _ h => h) (Or.inr ⟨by rfl, rfl⟩) (unhide HSS _ (unhide HK2)) ?_
          try simp only [Act.put, List.setIfInBounds_toArray, List.set_cons_zero, List.set_cons_succ]
          refine wpAnyT_take (i := 22) (oi := zrsz22) (v := undef) rfl (by kernel_rfl) (by kernel_rfl) (by kernel_rfl) (by kernel_rfl) (fun _ _ _ h => h) (Or.inr ⟨by rfl, rfl⟩) (unhide HSS _ (unhide HK2)) ?_
          try simp only [Act.put, List.setIfInBounds_toArray, List.set_cons_zero, List.set_cons_succ]
          refine wpAnyT_take (i := 23) (oi := zrsz23) (v := undef) rfl (by kernel_rfl) (by kernel_rfl) (by kernel_rfl) (by kernel_rfl) (fun _ _ _ h => h) (Or.inr ⟨by rfl, rfl⟩) (unhide HSS _ (unhide HK2)) ?_
          try simp only [Act.put, List.setIfInBounds_toArray, List.set_cons_zero, List.set_cons_succ]
          refine wpAnyT_take (i := 24) (oi := zrsz24) (v := undef) rfl (by kernel_rfl) (by kernel_rfl) (by kernel_rfl) (by kernel_rfl) (fun _ _ _ h => h) (Or.inr ⟨by rfl, rfl⟩) (unhide HSS _ (unhide HK2)) ?_
          try simp only [Act.put, List.setIfInBounds_toArray, List.set_cons_zero, List.set_cons_succ]
          refine wpAnyT_take (i := 25) (oi := zrsz25) (v := undef) rfl (by kernel_rfl) (by kernel_rfl) (by kernel_rfl) (by kernel_rfl) (fun _ _ _ h => h) (Or.inr ⟨by rfl, rfl⟩) (unhide HSS _ (unhide HK2)) ?_
          try simp only [Act.put, List.setIfInBounds_toArray, List.set_cons_zero, List.set_cons_succ]
          refine wpAnyT_take (i := 26) (oi := zrsz26) (v := undef) rfl (by kernel_rfl) (by kernel_rfl) (by kernel_rfl) (by kernel_rfl) (fun _ _ _ h => h) (Or.inr ⟨by rfl, rfl⟩) (unhide HSS _ (unhide HK2)) ?_
          try simp only [Act.put, List.setIfInBounds_toArray, List.set_cons_zero, List.set_cons_succ]
          refine wpAnyT_take (i := 27) (oi := zrsz27) (v := undef) rfl (by kernel_rfl) (by kernel_rfl) (by kernel_rfl) (by kernel_rfl) (fun _ _ _ h => h) (Or.inr ⟨by rfl, rfl⟩) (unhide HSS _ (unhide HK2)) ?_
          try simp only [Act.put, List.setIfInBounds_toArray, List.set_cons_zero, List.set_cons_succ]
          refine wpAnyT_take (i := 28) (oi := zrsz28) (v := undef) rfl (by kernel_rfl) (by kernel_rfl) (by kernel_rfl) (by kernel_rfl) (fun _ _ _ h => h) (Or.inr ⟨by rfl, rfl⟩) (unhide HSS _ (unhide HK2)) ?_
          try simp only [Act.put, List.setIfInBounds_toArray, List.set_cons_zero, List.set_cons_succ]
          refine wpAnyT_take (i := 29) (oi := zrsz29) (v := undef) rfl (by kernel_rfl) (by kernel_rfl) (by kernel_rfl) (by kernel_rfl) (fun _ _ _ h => h) (Or.inr ⟨by rfl, rfl⟩) (unhide HSS _ (unhide HK2)) ?_
          try simp only [Act.put, List.setIfInBounds_toArray, List.set_cons_zero, List.set_cons_succ]
          refine wpAnyT_take (i := 30) (oi := zrsz30) (v := .bool false) rfl (by kernel_rfl) (by kernel_rfl) (by kernel_rfl) (by kernel_rfl) (fun _ _ _ h => h) (Or.inl ⟨by rfl, ?_⟩) (unhide HSS _ (unhide HK2)) ?_
          · intro w hSw
            obtain ⟨s0, s1, s2⟩ := hSw
            first
              | rfl
              | (go_simp; done)
          try simp only [Act.put, List.setIfInBounds_toArray, List.set_cons_zero, List.set_cons_succ]
          refine wpAnyT_take (i := 31) (oi := zrsz31) (v := .bool false) rfl (by kernel_rfl) (by kernel_rfl) (by kernel_rfl) (by kernel_rfl) (fun _ _ _ h => h) (Or.inl ⟨by rfl, ?_⟩) (unhide HSS _ (unhide HK2)) ?_
          · intro w hSw
            obtain ⟨s0, s1, s2⟩ := hSw
            first
              | rfl
              | (go_simp; done)
          try simp only [Act.put, List.setIfInBounds_toArray, List.set_cons_zero, List.set_cons_succ]
          refine wpAnyT_done (by kernel_rfl) ?_ _
          have HB2 := hide ((unhide HBA).trans ((unhide HK2).mono (unhide HBA).size))
          obtain ⟨r0, r1, r2⟩ := unhide HSS _ (unhide HK2)
          clear HSS HFI HBA HK2 r2
          have HB3 := HB2
          clear HB2
          by_cases k2 : p.kind = 2
          · rw [k2] at r0
            have K2 := hide k2
            by_cases hA : 1099511627776 < fv
            · exfalso; omega
            by_cases hB : 1099511627776 < tv + p.n
            · have HNO : Hid (sizeL (l.take (0 + 1)) = none) := hide (by rw [unhide HST]; simp only [sizeStep]; rw [if_pos ⟨unhide HFB, unhide HFO⟩]; simp only [unhide K2, if_true, show ((2 : Int) = 3) = False from by simp, if_false]; rw [if_pos (.inr hB)])
              go_wp2_with fail
              go_ret3
              have hz := sizeL_none (unhide HNO)
              exact ⟨by unfold szVal; rw [hz]; rfl, unhide HB3⟩
            have HNX : Hid (sizeL (l.take (0 + 1)) = some (fv, tv + p.n, p.kind)) := hide (by rw [unhide HST]; simp only [sizeStep]; rw [if_pos ⟨unhide HFB, unhide HFO⟩]; simp only [unhide K2, if_true, show ((2 : Int) = 3) = False from by simp, if_false]; rw [if_neg (by omega)])
            go_wp2_with fail
            exact ⟨⟨1, by omega, by simp, ⟨_, _, _, rfl, rfl, HNX⟩, HB3⟩, by simp [intOf]; omega⟩
          have k2b : (p.kind == 2) = false := by simp [k2]
          by_cases k3 : p.kind = 3
          · rw [k3] at r0
            have K3 := hide k3
            by_cases hA : 1099511627776 < fv + p.n
            · have HNO : Hid (sizeL (l.take (0 + 1)) = none) := hide (by rw [unhide HST]; simp only [sizeStep]; rw [if_pos ⟨unhide HFB, unhide HFO⟩]; simp only [unhide K3, if_true, show ((3 : Int) = 2) = False from by simp, if_false]; rw [if_pos (.inl hA)])
              go_wp2_with fail
              go_ret3
              have hz := sizeL_none (unhide HNO)
              exact ⟨by unfold szVal; rw [hz]; rfl, unhide HB3⟩
            by_cases hB : 1099511627776 < tv
            · exfalso; omega
            have HNX : Hid (sizeL (l.take (0 + 1)) = some (fv + p.n, tv, p.kind)) := hide (by rw [unhide HST]; simp only [sizeStep]; rw [if_pos ⟨unhide HFB, unhide HFO⟩]; simp only [unhide K3, if_true, show ((3 : Int) = 2) = False from by simp, if_false]; rw [if_neg (by omega)])
            go_wp2_with fail
            exact ⟨⟨1, by omega, by simp, ⟨_, _, _, rfl, rfl, HNX⟩, HB3⟩, by simp [intOf]; omega⟩
          have k3b : (p.kind == 3) = false := by simp [k3]
          by_cases hA : 1099511627776 < fv + p.n
          · have HNO : Hid (sizeL (l.take (0 + 1)) = none) := hide (by rw [unhide HST]; simp only [sizeStep]; rw [if_pos ⟨unhide HFB, unhide HFO⟩]; simp only [k2, k3, if_false]; rw [if_pos (.inl hA)])
            go_wp2_with fail
            go_ret3
            have hz := sizeL_none (unhide HNO)
            exact ⟨by unfold szVal; rw [hz]; rfl, unhide HB3⟩
          by_cases hB : 1099511627776 < tv + p.n
          · have HNO : Hid (sizeL (l.take (0 + 1)) = none) := hide (by rw [unhide HST]; simp only [sizeStep]; rw [if_pos ⟨unhide HFB, unhide HFO⟩]; simp only [k2, k3, if_false]; rw [if_pos (.inr hB)])
            go_wp2_with fail
            go_ret3
            have hz := sizeL_none (unhide HNO)
            exact ⟨by unfold szVal; rw [hz]; rfl, unhide HB3⟩
          have HNX : Hid (sizeL (l.take (0 + 1)) = some (fv + p.n, tv + p.n, p.kind)) := hide (by rw [unhide HST]; simp only [sizeStep]; rw [if_pos ⟨unhide HFB, unhide HFO⟩]; simp only [k2, k3, if_false]; rw [if_neg (by omega)])
          go_wp2_with fail
          exact ⟨⟨1, by omega, by simp, ⟨_, _, _, rfl, rfl, HNX⟩, HB3⟩, by simp [intOf]; omega⟩
        · obtain ⟨j, rfl⟩ : ∃ j, k = j + 1 := ⟨k - 1, by omega⟩
          obtain ⟨q, hq⟩ : ∃ q, l[j]? = some q := ⟨_, List.getElem?_eq_getElem (by have := unhide HN; omega)⟩
          have hlv := sizeL_last hq (unhide HSZ)
          obtain ⟨b', off', hab, f0, f1, f2⟩ := (unhide HP).at_ (unhide HB) hq
          cases hab
          rw [hlv] at f0
          have hbl : b < wr.heap.size := by
            rcases (unhide HP).call (unhide HB) with h0 | ⟨b2, off2, he, hl2, _⟩
            · rw [h0] at hq; cases hq
            · cases he; exact hl2
          have HSS : Hid (∀ W, Below wA.heap.size wA W → W.cell? ⟨bb, 0, none⟩ = some (.int .i64 p.kind) ∧ W.cell? ⟨bb, 1, none⟩ = some (.int .i64 p.n) ∧ W.cell? ⟨bb, 2, none⟩ = some (.string p.text) ∧ W.cell? ⟨b, off + j * 3, none⟩ = some (.int .i64 lv)) := hide (fun W hW => ⟨((unhide HRW).below hW (unhide HRW).lt).cell 0, ((unhide HRW).below hW (unhide HRW).lt).cell 1, ((unhide HRW).below hW (unhide HRW).lt).cell 2, by rw [hW.cell (p := ⟨b, _, none⟩) (Nat.lt_of_lt_of_le hbl (unhide HBN).size), (unhide HBN).cell (p := ⟨b, _, none⟩) hbl]; exact f0⟩)
          clear HRW HBN hbl f0 f1 f2 hlv hq HPK
          have jI : (0 : Int) ≤ (j : Int) := by omega
          have jn : (j : Int) + 1 < (n : Int) := by omega
          have jn0 : (j : Int) < (n : Int) := by omega
          have j0 : (0 : Int) < (j : Int) + 1 := by omega
          have jw : IntKind.i64.wrap (j : Int) = (j : Int) := by rw [IntKind.wrap_i64]; omega
          simp only [show ((j + 1 : Nat) : Int) = (j : Int) + 1 from by push_cast; rfl] at kI ⊢
          by_cases hsk : lv = p.kind
          · have hskb : (lv == p.kind) = true := by simp [hsk]
            have HNF : Hid (followsB p.kind lv = false) := hide (by unfold followsB; simp [hsk])
            clear hsk
            refine wp_region_T (S := fun W => W.cell? ⟨bb, 0, none⟩ = some (.int .i64 p.kind) ∧ W.cell? ⟨bb, 1, none⟩ = some (.int .i64 p.n) ∧ W.cell? ⟨bb, 2, none⟩ = some (.string p.text) ∧ W.cell? ⟨b, off + j * 3, none⟩ = some (.int .i64 lv)) (fun i => decide (i < 32)) (by kernel_rfl) (unhide HSS _ (Below.refl _ _).drew) (fun hHeld => ?_)
            refine wpAnyT_take (i := 0) (oi := zrsz0) (v := .agg #[.int .i64 p.kind, .int .i64 p.n, .string p.text]) rfl (by kernel_rfl) (by kernel_rfl) (by kernel_rfl) (by kernel_rfl) (fun _ _ _ h => h) (Or.inl ⟨by rfl, ?_⟩) hHeld ?_
            · intro w hSw
              obtain ⟨s0, s1, s2, s3⟩ := hSw
              first
                | rfl
                | (go_simp; done)
            try simp only [Act.put, List.setIfInBounds_toArray, List.set_cons_zero, List.set_cons_succ]
            refine wpAnyT_one (i := 1) (o := zrsz1) (by kernel_rfl) rfl (fun K hK => ?_)
            go_simp
            refine Calls.mono (unhide HFI _ (Below.refl _ _).drew) ?_
            rintro r w2 ⟨rfl, hb2⟩
            have HK2 := hide ((Below.refl wA.heap.size wA).drew.trans (hb2.mono (Below.refl wA.heap.size wA).drew.size))
            clear hb2
            go_wp2_with fail
            refine hK.out _ _ (fun _ => unhide HSS _ (unhide HK2)) ?_
            clear hK K
            try simp only [Act.put, List.setIfInBounds_toArray, List.set_cons_zero, List.set_cons_succ]
            refine wpAnyT_take (i := 2) (oi := zrsz2) (v := .bool false) rfl (by kernel_rfl) (by kernel_rfl) (by kernel_rfl) (by kernel_rfl) (fun _ _ _ h => h) (Or.inl ⟨by rfl, ?_⟩) (unhide HSS _ (unhide HK2)) ?_
            · intro w hSw
              obtain ⟨s0, s1, s2, s3⟩ := hSw
              first
                | rfl
                | (go_simp; done)
            try simp only [Act.put, List.setIfInBounds_toArray, List.set_cons_zero, List.set_cons_succ]
            refine wpAnyT_take (i := 3) (oi := zrsz3) (v := .bool false) rfl (by kernel_rfl) (by kernel_rfl) (by kernel_rfl) (by kernel_rfl) (fun _ _ _ h => h) (Or.inl ⟨by rfl, ?_⟩) (unhide HSS _ (unhide HK2)) ?_
            · intro w hSw
              obtain ⟨s0, s1, s2, s3⟩ := hSw
              first
                | rfl
                | (go_simp; done)
            try simp only [Act.put, List.setIfInBounds_toArray, List.set_cons_zero, List.set_cons_succ]
            refine wpAnyT_take (i := 4) (oi := zrsz4) (v := .int .i64 ((j : Int) + 1)) rfl (by kernel_rfl) (by kernel_rfl) (by kernel_rfl) (by kernel_rfl) (fun _ _ _ h => h) (Or.inl ⟨by rfl, ?_⟩) (unhide HSS _ (unhide HK2)) ?_
            · intro w hSw
              obtain ⟨s0, s1, s2, s3⟩ := hSw
              first
                | rfl
                | (go_simp; done)
            try simp only [Act.put, List.setIfInBounds_toArray, List.set_cons_zero, List.set_cons_succ]
            refine wpAnyT_take (i := 5) (oi := zrsz5) (v := .bool true) rfl (by kernel_rfl) (by kernel_rfl) (by kernel_rfl) (by kernel_rfl) (fun _ _ _ h => h) (Or.inl ⟨by rfl, ?_⟩) (unhide HSS _ (unhide HK2)) ?_
            · intro w hSw
              obtain ⟨s0, s1, s2, s3⟩ := hSw
              first
                | rfl
                | (go_simp; done)
            try simp only [Act.put, List.setIfInBounds_toArray, List.set_cons_zero, List.set_cons_succ]
            refine wpAnyT_take (i := 6) (oi := zrsz6) (v := .bool true) rfl (by kernel_rfl) (by kernel_rfl) (by kernel_rfl) (by kernel_rfl) (fun _ _ _ h => h) (Or.inl ⟨by rfl, ?_⟩) (unhide HSS _ (unhide HK2)) ?_
            · intro w hSw
              obtain ⟨s0, s1, s2, s3⟩ := hSw
              first
                | rfl
                | (go_simp; done)
            try simp only [Act.put, List.setIfInBounds_toArray, List.set_cons_zero, List.set_cons_succ]
            refine wpAnyT_take (i := 7) (oi := zrsz7) (v := .slice (some ⟨b, off, none⟩) n c) rfl (by kernel_rfl) (by kernel_rfl) (by kernel_rfl) (by kernel_rfl) (fun _ _ _ h => h) (Or.inl ⟨by rfl, ?_⟩) (unhide HSS _ (unhide HK2)) ?_
            · intro w hSw
              obtain ⟨s0, s1, s2, s3⟩ := hSw
              first
                | rfl
                | (go_simp; done)
            try simp only [Act.put, List.setIfInBounds_toArray, List.set_cons_zero, List.set_cons_succ]
            refine wpAnyT_take (i := 8) (oi := zrsz8) (v := .int .i64 ((j : Int) + 1)) rfl (by kernel_rfl) (by kernel_rfl) (by kernel_rfl) (by kernel_rfl) (fun _ _ _ h => h) (Or.inl ⟨by rfl, ?_⟩) (unhide HSS _ (unhide HK2)) ?_
            · intro w hSw
              obtain ⟨s0, s1, s2, s3⟩ := hSw
              first
                | rfl
                | (go_simp; done)
            try simp only [Act.put, List.setIfInBounds_toArray, List.set_cons_zero, List.set_cons_succ]
            refine wpAnyT_take (i := 9) (oi := zrsz9) (v := .int .i64 (j : Int)) rfl (by kernel_rfl) (by kernel_rfl) (by kernel_rfl) (by kernel_rfl) (fun _ _ _ h => h) (Or.inl ⟨by rfl, ?_⟩) (unhide HSS _ (unhide HK2)) ?_
            · intro w hSw
              obtain ⟨s0, s1, s2, s3⟩ := hSw
              first
                | rfl
                | (go_simp; done)
            try simp only [Act.put, List.setIfInBounds_toArray, List.set_cons_zero, List.set_cons_succ]
            refine wpAnyT_take (i := 10) (oi := zrsz10) (v := .pointer (some ⟨b, off + j * 3, none⟩)) rfl (by kernel_rfl) (by kernel_rfl) (by kernel_rfl) (by kernel_rfl) (fun _ _ _ h => h) (Or.inl ⟨by rfl, ?_⟩) (unhide HSS _ (unhide HK2)) ?_
            · intro w hSw
              obtain ⟨s0, s1, s2, s3⟩ := hSw
              first
                | rfl
                | (go_simp; done)
            try simp only [Act.put, List.setIfInBounds_toArray, List.set_cons_zero, List.set_cons_succ]
            refine wpAnyT_take (i := 11) (oi := zrsz11) (v := .pointer (some ⟨b, off + j * 3, none⟩)) rfl (by kernel_rfl) (by kernel_rfl) (by kernel_rfl) (by kernel_rfl) (fun _ _ _ h => h) (Or.inl ⟨by rfl, ?_⟩) (unhide HSS _ (unhide HK2)) ?_
            · intro w hSw
              obtain ⟨s0, s1, s2, s3⟩ := hSw
              first
                | rfl
                | (go_simp; done)
            try simp only [Act.put, List.setIfInBounds_toArray, List.set_cons_zero, List.set_cons_succ]
            refine wpAnyT_take (i := 12) (oi := zrsz12) (v := .int .i64 lv) rfl (by kernel_rfl) (by kernel_rfl) (by kernel_rfl) (by kernel_rfl) (fun _ _ _ h => h) (Or.inl ⟨by rfl, ?_⟩) (unhide HSS _ (unhide HK2)) ?_
            · intro w hSw
              obtain ⟨s0, s1, s2, s3⟩ := hSw
              first
                | rfl
                | (go_simp; done)
            try simp only [Act.put, List.setIfInBounds_toArray, List.set_cons_zero, List.set_cons_succ]
            refine wpAnyT_take (i := 13) (oi := zrsz13) (v := .pointer (some ⟨bb, 0, none⟩)) rfl (by kernel_rfl) (by kernel_rfl) (by kernel_rfl) (by kernel_rfl) (fun _ _ _ h => h) (Or.inl ⟨by rfl, ?_⟩) (unhide HSS _ (unhide HK2)) ?_
            · intro w hSw
              obtain ⟨s0, s1, s2, s3⟩ := hSw
              first
                | rfl
                | (go_simp; done)
            try simp only [Act.put, List.setIfInBounds_toArray, List.set_cons_zero, List.set_cons_succ]
            refine wpAnyT_take (i := 14) (oi := zrsz14) (v := .int .i64 p.kind) rfl (by kernel_rfl) (by kernel_rfl) (by kernel_rfl) (by kernel_rfl) (fun _ _ _ h => h) (Or.inl ⟨by rfl, ?_⟩) (unhide HSS _ (unhide HK2)) ?_
            · intro w hSw
              obtain ⟨s0, s1, s2, s3⟩ := hSw
              first
                | rfl
                | (go_simp; done)
            try simp only [Act.put, List.setIfInBounds_toArray, List.set_cons_zero, List.set_cons_succ]
            refine wpAnyT_take (i := 15) (oi := zrsz15) (v := .bool true) rfl (by kernel_rfl) (by kernel_rfl) (by kernel_rfl) (by kernel_rfl) (fun _ _ _ h => h) (Or.inl ⟨by rfl, ?_⟩) (unhide HSS _ (unhide HK2)) ?_
            · intro w hSw
              obtain ⟨s0, s1, s2, s3⟩ := hSw
              first
                | rfl
                | (go_simp; done)
            try simp only [Act.put, List.setIfInBounds_toArray, List.set_cons_zero, List.set_cons_succ]
            refine wpAnyT_take (i := 16) (oi := zrsz16) (v := .bool true) rfl (by kernel_rfl) (by kernel_rfl) (by kernel_rfl) (by kernel_rfl) (fun _ _ _ h => h) (Or.inl ⟨by rfl, ?_⟩) (unhide HSS _ (unhide HK2)) ?_
            · intro w hSw
              obtain ⟨s0, s1, s2, s3⟩ := hSw
              first
                | rfl
                | (go_simp; done)
            try simp only [Act.put, List.setIfInBounds_toArray, List.set_cons_zero, List.set_cons_succ]
            refine wpAnyT_take (i := 17) (oi := zrsz17) (v := undef) rfl (by kernel_rfl) (by kernel_rfl) (by kernel_rfl) (by kernel_rfl) (fun _ _ _ h => h) (Or.inr ⟨by rfl, rfl⟩) (unhide HSS _ (unhide HK2)) ?_
            try simp only [Act.put, List.setIfInBounds_toArray, List.set_cons_zero, List.set_cons_succ]
            refine wpAnyT_take (i := 18) (oi := zrsz18) (v := undef) rfl (by kernel_rfl) (by kernel_rfl) (by kernel_rfl) (by kernel_rfl) (fun _ _ _ h => h) (Or.inr ⟨by rfl, rfl⟩) (unhide HSS _ (unhide HK2)) ?_
            try simp only [Act.put, List.setIfInBounds_toArray, List.set_cons_zero, List.set_cons_succ]
            refine wpAnyT_take (i := 19) (oi := zrsz19) (v := undef) rfl (by kernel_rfl) (by kernel_rfl) (by kernel_rfl) (by kernel_rfl) (fun _ _ _ h => h) (Or.inr ⟨by rfl, rfl⟩) (unhide HSS _ (unhide HK2)) ?_
            try simp only [Act.put, List.setIfInBounds_toArray, List.set_cons_zero, List.set_cons_succ]
            refine wpAnyT_take (i := 20) (oi := zrsz20) (v := undef) rfl (by kernel_rfl) (by kernel_rfl) (by kernel_rfl) (by kernel_rfl) (fun _ _ _ h => h) (Or.inr ⟨by rfl, rfl⟩) (unhide HSS _ (unhide HK2)) ?_
            try simp only [Act.put, List.setIfInBounds_toArray, List.set_cons_zero, List.set_cons_succ]
            refine wpAnyT_take (i := 21) (oi := zrsz21) (v := undef) rfl (by kernel_rfl) (by kernel_rfl) (by kernel_rfl) (by kernel_rfl) (fun _ _ _ h => h) (Or.inr ⟨by rfl, rfl⟩) (unhide HSS _ (unhide HK2)) ?_
            try simp only [Act.put, List.setIfInBounds_toArray, List.set_cons_zero, List.set_cons_succ]
            refine wpAnyT_take (i := 22) (oi := zrsz22) (v := undef) rfl (by kernel_rfl) (by kernel_rfl) (by kernel_rfl) (by kernel_rfl) (fun _ _ _ h => h) (Or.inr ⟨by rfl, rfl⟩) (unhide HSS _ (unhide HK2)) ?_
            try simp only [Act.put, List.setIfInBounds_toArray, List.set_cons_zero, List.set_cons_succ]
            refine wpAnyT_take (i := 23) (oi := zrsz23) (v := undef) rfl (by kernel_rfl) (by kernel_rfl) (by kernel_rfl) (by kernel_rfl) (fun _ _ _ h => h) (Or.inr ⟨by rfl, rfl⟩) (unhide HSS _ (unhide HK2)) ?_
            try simp only [Act.put, List.setIfInBounds_toArray, List.set_cons_zero, List.set_cons_succ]
            refine wpAnyT_take (i := 24) (oi := zrsz24) (v := undef) rfl (by kernel_rfl) (by kernel_rfl) (by kernel_rfl) (by kernel_rfl) (fun _ _ _ h => h) (Or.inr ⟨by rfl, rfl⟩) (unhide HSS _ (unhide HK2)) ?_
            try simp only [Act.put, List.setIfInBounds_toArray, List.set_cons_zero, List.set_cons_succ]
            refine wpAnyT_take (i := 25) (oi := zrsz25) (v := undef) rfl (by kernel_rfl) (by kernel_rfl) (by kernel_rfl) (by kernel_rfl) (fun _ _ _ h => h) (Or.inr ⟨by rfl, rfl⟩) (unhide HSS _ (unhide HK2)) ?_
            try simp only [Act.put, List.setIfInBounds_toArray, List.set_cons_zero, List.set_cons_succ]
            refine wpAnyT_take (i := 26) (oi := zrsz26) (v := undef) rfl (by kernel_rfl) (by kernel_rfl) (by kernel_rfl) (by kernel_rfl) (fun _ _ _ h => h) (Or.inr ⟨by rfl, rfl⟩) (unhide HSS _ (unhide HK2)) ?_
            try simp only [Act.put, List.setIfInBounds_toArray, List.set_cons_zero, List.set_cons_succ]
            refine wpAnyT_take (i := 27) (oi := zrsz27) (v := undef) rfl (by kernel_rfl) (by kernel_rfl) (by kernel_rfl) (by kernel_rfl) (fun _ _ _ h => h) (Or.inr ⟨by rfl, rfl⟩) (unhide HSS _ (unhide HK2)) ?_
            try simp only [Act.put, List.setIfInBounds_toArray, List.set_cons_zero, List.set_cons_succ]
            refine wpAnyT_take (i := 28) (oi := zrsz28) (v := undef) rfl (by kernel_rfl) (by kernel_rfl) (by kernel_rfl) (by kernel_rfl) (fun _ _ _ h => h) (Or.inr ⟨by rfl, rfl⟩) (unhide HSS _ (unhide HK2)) ?_
            try simp only [Act.put, List.setIfInBounds_toArray, List.set_cons_zero, List.set_cons_succ]
            refine wpAnyT_take (i := 29) (oi := zrsz29) (v := .bool true) rfl (by kernel_rfl) (by kernel_rfl) (by kernel_rfl) (by kernel_rfl) (fun _ _ _ h => h) (Or.inl ⟨by rfl, ?_⟩) (unhide HSS _ (unhide HK2)) ?_
            · intro w hSw
              obtain ⟨s0, s1, s2, s3⟩ := hSw
              first
                | rfl
                | (go_simp; done)
            try simp only [Act.put, List.setIfInBounds_toArray, List.set_cons_zero, List.set_cons_succ]
            refine wpAnyT_take (i := 30) (oi := zrsz30) (v := .bool true) rfl (by kernel_rfl) (by kernel_rfl) (by kernel_rfl) (by kernel_rfl) (fun _ _ _ h => h) (Or.inl ⟨by rfl, ?_⟩) (unhide HSS _ (unhide HK2)) ?_
            · intro w hSw
              obtain ⟨s0, s1, s2, s3⟩ := hSw
              first
                | rfl
                | (go_simp; done)
            try simp only [Act.put, List.setIfInBounds_toArray, List.set_cons_zero, List.set_cons_succ]
            refine wpAnyT_take (i := 31) (oi := zrsz31) (v := .bool true) rfl (by kernel_rfl) (by kernel_rfl) (by kernel_rfl) (by kernel_rfl) (fun _ _ _ h => h) (Or.inl ⟨by rfl, ?_⟩) (unhide HSS _ (unhide HK2)) ?_
            · intro w hSw
              obtain ⟨s0, s1, s2, s3⟩ := hSw
              first
                | rfl
                | (go_simp; done)
            try simp only [Act.put, List.setIfInBounds_toArray, List.set_cons_zero, List.set_cons_succ]
            refine wpAnyT_done (by kernel_rfl) ?_ _
            have HB2 := hide ((unhide HBA).trans ((unhide HK2).mono (unhide HBA).size))
            obtain ⟨r0, r1, r2, r3⟩ := unhide HSS _ (unhide HK2)
            clear HSS HFI HBA HK2 r3 r2
            have HB3 := HB2
            clear HB2
            have HNO : Hid (sizeL (l.take ((j + 1) + 1)) = none) := hide (by rw [unhide HST]; simp [sizeStep, unhide HNF])
            go_wp2_with fail
            go_ret3
            have hz := sizeL_none (unhide HNO)
            exact ⟨by unfold szVal; rw [hz]; rfl, unhide HB3⟩
          have hskb : (lv == p.kind) = false := by simp [hsk]
          by_cases hl3 : lv = 3
          · have hl3b : (lv == 3) = true := by simp [hl3]
            by_cases hk2 : p.kind = 2
            · have hk2b : (p.kind == 2) = true := by simp [hk2]
              have HNF : Hid (followsB p.kind lv = false) := hide (by unfold followsB; simp [hk2, hl3])
              clear hsk hk2 hl3
              refine wp_region_T (S := fun W => W.cell? ⟨bb, 0, none⟩ = some (.int .i64 p.kind) ∧ W.cell? ⟨bb, 1, none⟩ = some (.int .i64 p.n) ∧ W.cell? ⟨bb, 2, none⟩ = some (.string p.text) ∧ W.cell? ⟨b, off + j * 3, none⟩ = some (.int .i64 lv)) (fun i => decide (i < 32)) (by kernel_rfl) (unhide HSS _ (Below.refl _ _).drew) (fun hHeld => ?_)
              refine wpAnyT_take (i := 0) (oi := zrsz0) (v := .agg #[.int .i64 p.kind, .int .i64 p.n, .string p.text]) rfl (by kernel_rfl) (by kernel_rfl) (by kernel_rfl) (by kernel_rfl) (fun _ _ _ h => h) (Or.inl ⟨by rfl, ?_⟩) hHeld ?_
              · intro w hSw
                obtain ⟨s0, s1, s2, s3⟩ := hSw
                first
                  | rfl
                  | (go_simp; done)
              try simp only [Act.put, List.setIfInBounds_toArray, List.set_cons_zero, List.set_cons_succ]
              refine wpAnyT_one (i := 1) (o := zrsz1) (by kernel_rfl) rfl (fun K hK => ?_)
              go_simp
              refine Calls.mono (unhide HFI _ (Below.refl _ _).drew) ?_
              rintro r w2 ⟨rfl, hb2⟩
              have HK2 := hide ((Below.refl wA.heap.size wA).drew.trans (hb2.mono (Below.refl wA.heap.size wA).drew.size))
              clear hb2
              go_wp2_with fail
              refine hK.out _ _ (fun _ => unhide HSS _ (unhide HK2)) ?_
              clear hK K
              try simp only [Act.put, List.setIfInBounds_toArray, List.set_cons_zero, List.set_cons_succ]
              refine wpAnyT_take (i := 2) (oi := zrsz2) (v := .bool false) rfl (by kernel_rfl) (by kernel_rfl) (by kernel_rfl) (by kernel_rfl) (fun _ _ _ h => h) (Or.inl ⟨by rfl, ?_⟩) (unhide HSS _ (unhide HK2)) ?_
              · intro w hSw
                obtain ⟨s0, s1, s2, s3⟩ := hSw
                first
                  | rfl
                  | (go_simp; done)
              try simp only [Act.put, List.setIfInBounds_toArray, List.set_cons_zero, List.set_cons_succ]
              refine wpAnyT_take (i := 3) (oi := zrsz3) (v := .bool false) rfl (by kernel_rfl) (by kernel_rfl) (by kernel_rfl) (by kernel_rfl) (fun _ _ _ h => h) (Or.inl ⟨by rfl, ?_⟩) (unhide HSS _ (unhide HK2)) ?_
              · intro w hSw
                obtain ⟨s0, s1, s2, s3⟩ := hSw
                first
                  | rfl
                  | (go_simp; done)
              try simp only [Act.put, List.setIfInBounds_toArray, List.set_cons_zero, List.set_cons_succ]
              refine wpAnyT_take (i := 4) (oi := zrsz4) (v := .int .i64 ((j : Int) + 1)) rfl (by kernel_rfl) (by kernel_rfl) (by kernel_rfl) (by kernel_rfl) (fun _ _ _ h => h) (Or.inl ⟨by rfl, ?_⟩) (unhide HSS _ (unhide HK2)) ?_
              · intro w hSw
                obtain ⟨s0, s1, s2, s3⟩ := hSw
                first
                  | rfl
                  | (go_simp; done)
              try simp only [Act.put, List.setIfInBounds_toArray, List.set_cons_zero, List.set_cons_succ]
              refine wpAnyT_take (i := 5) (oi := zrsz5) (v := .bool true) rfl (by kernel_rfl) (by kernel_rfl) (by kernel_rfl) (by kernel_rfl) (fun _ _ _ h => h) (Or.inl ⟨by rfl, ?_⟩) (unhide HSS _ (unhide HK2)) ?_
              · intro w hSw
                obtain ⟨s0, s1, s2, s3⟩ := hSw
                first
                  | rfl
                  | (go_simp; done)
              try simp only [Act.put, List.setIfInBounds_toArray, List.set_cons_zero, List.set_cons_succ]
              refine wpAnyT_take (i := 6) (oi := zrsz6) (v := .bool true) rfl (by kernel_rfl) (by kernel_rfl) (by kernel_rfl) (by kernel_rfl) (fun _ _ _ h => h) (Or.inl ⟨by rfl, ?_⟩) (unhide HSS _ (unhide HK2)) ?_
              · intro w hSw
                obtain ⟨s0, s1, s2, s3⟩ := hSw
                first
                  | rfl
                  | (go_simp; done)
              try simp only [Act.put, List.setIfInBounds_toArray, List.set_cons_zero, List.set_cons_succ]
              refine wpAnyT_take (i := 7) (oi := zrsz7) (v := .slice (some ⟨b, off, none⟩) n c) rfl (by kernel_rfl) (by kernel_rfl) (by kernel_rfl) (by kernel_rfl) (fun _ _ _ h => h) (Or.inl ⟨by rfl, ?_⟩) (unhide HSS _ (unhide HK2)) ?_
              · intro w hSw
                obtain ⟨s0, s1, s2, s3⟩ := hSw
                first
                  | rfl
                  | (go_simp; done)
              try simp only [Act.put, List.setIfInBounds_toArray, List.set_cons_zero, List.set_cons_succ]
              refine wpAnyT_take (i := 8) (oi := zrsz8) (v := .int .i64 ((j : Int) + 1)) rfl (by kernel_rfl) (by kernel_rfl) (by kernel_rfl) (by kernel_rfl) (fun _ _ _ h => h) (Or.inl ⟨by rfl, ?_⟩) (unhide HSS _ (unhide HK2)) ?_
              · intro w hSw
                obtain ⟨s0, s1, s2, s3⟩ := hSw
                first
                  | rfl
                  | (go_simp; done)
              try simp only [Act.put, List.setIfInBounds_toArray, List.set_cons_zero, List.set_cons_succ]
              refine wpAnyT_take (i := 9) (oi := zrsz9) (v := .int .i64 (j : Int)) rfl (by kernel_rfl) (by kernel_rfl) (by kernel_rfl) (by kernel_rfl) (fun _ _ _ h => h) (Or.inl ⟨by rfl, ?_⟩) (unhide HSS _ (unhide HK2)) ?_
              · intro w hSw
                obtain ⟨s0, s1, s2, s3⟩ := hSw
                first
                  | rfl
                  | (go_simp; done)
              try simp only [Act.put, List.setIfInBounds_toArray, List.set_cons_zero, List.set_cons_succ]
              refine wpAnyT_take (i := 10) (oi := zrsz10) (v := .pointer (some ⟨b, off + j * 3, none⟩)) rfl (by kernel_rfl) (by kernel_rfl) (by kernel_rfl) (by kernel_rfl) (fun _ _ _ h => h) (Or.inl ⟨by rfl, ?_⟩) (unhide HSS _ (unhide HK2)) ?_
              · intro w hSw
                obtain ⟨s0, s1, s2, s3⟩ := hSw
                first
                  | rfl
                  | (go_simp; done)
              try simp only [Act.put, List.setIfInBounds_toArray, List.set_cons_zero, List.set_cons_succ]
              refine wpAnyT_take (i := 11) (oi := zrsz11) (v := .pointer (some ⟨b, off + j * 3, none⟩)) rfl (by kernel_rfl) (by kernel_rfl) (by kernel_rfl) (by kernel_rfl) (fun _ _ _ h => h) (Or.inl ⟨by rfl, ?_⟩) (unhide HSS _ (unhide HK2)) ?_
              · intro w hSw
                obtain ⟨s0, s1, s2, s3⟩ := hSw
                first
                  | rfl
                  | (go_simp; done)
              try simp only [Act.put, List.setIfInBounds_toArray, List.set_cons_zero, List.set_cons_succ]
              refine wpAnyT_take (i := 12) (oi := zrsz12) (v := .int .i64 lv) rfl (by kernel_rfl) (by kernel_rfl) (by kernel_rfl) (by kernel_rfl) (fun _ _ _ h => h) (Or.inl ⟨by rfl, ?_⟩) (unhide HSS _ (unhide HK2)) ?_
              · intro w hSw
                obtain ⟨s0, s1, s2, s3⟩ := hSw
                first
                  | rfl
                  | (go_simp; done)
              try simp only [Act.put, List.setIfInBounds_toArray, List.set_cons_zero, List.set_cons_succ]
              refine wpAnyT_take (i := 13) (oi := zrsz13) (v := .pointer (some ⟨bb, 0, none⟩)) rfl (by kernel_rfl) (by kernel_rfl) (by kernel_rfl) (by kernel_rfl) (fun _ _ _ h => h) (Or.inl ⟨by rfl, ?_⟩) (unhide HSS _ (unhide HK2)) ?_
              · intro w hSw
                obtain ⟨s0, s1, s2, s3⟩ := hSw
                first
                  | rfl
                  | (go_simp; done)
              try simp only [Act.put, List.setIfInBounds_toArray, List.set_cons_zero, List.set_cons_succ]
              refine wpAnyT_take (i := 14) (oi := zrsz14) (v := .int .i64 p.kind) rfl (by kernel_rfl) (by kernel_rfl) (by kernel_rfl) (by kernel_rfl) (fun _ _ _ h => h) (Or.inl ⟨by rfl, ?_⟩) (unhide HSS _ (unhide HK2)) ?_
              · intro w hSw
                obtain ⟨s0, s1, s2, s3⟩ := hSw
                first
                  | rfl
                  | (go_simp; done)
              try simp only [Act.put, List.setIfInBounds_toArray, List.set_cons_zero, List.set_cons_succ]
              refine wpAnyT_take (i := 15) (oi := zrsz15) (v := .bool false) rfl (by kernel_rfl) (by kernel_rfl) (by kernel_rfl) (by kernel_rfl) (fun _ _ _ h => h) (Or.inl ⟨by rfl, ?_⟩) (unhide HSS _ (unhide HK2)) ?_
              · intro w hSw
                obtain ⟨s0, s1, s2, s3⟩ := hSw
                first
                  | rfl
                  | (go_simp; done)
              try simp only [Act.put, List.setIfInBounds_toArray, List.set_cons_zero, List.set_cons_succ]
              refine wpAnyT_take (i := 16) (oi := zrsz16) (v := .bool false) rfl (by kernel_rfl) (by kernel_rfl) (by kernel_rfl) (by kernel_rfl) (fun _ _ _ h => h) (Or.inl ⟨by rfl, ?_⟩) (unhide HSS _ (unhide HK2)) ?_
              · intro w hSw
                obtain ⟨s0, s1, s2, s3⟩ := hSw
                first
                  | rfl
                  | (go_simp; done)
              try simp only [Act.put, List.setIfInBounds_toArray, List.set_cons_zero, List.set_cons_succ]
              refine wpAnyT_take (i := 17) (oi := zrsz17) (v := .slice (some ⟨b, off, none⟩) n c) rfl (by kernel_rfl) (by kernel_rfl) (by kernel_rfl) (by kernel_rfl) (fun _ _ _ h => h) (Or.inl ⟨by rfl, ?_⟩) (unhide HSS _ (unhide HK2)) ?_
              · intro w hSw
                obtain ⟨s0, s1, s2, s3⟩ := hSw
                first
                  | rfl
                  | (go_simp; done)
              try simp only [Act.put, List.setIfInBounds_toArray, List.set_cons_zero, List.set_cons_succ]
              refine wpAnyT_take (i := 18) (oi := zrsz18) (v := .int .i64 ((j : Int) + 1)) rfl (by kernel_rfl) (by kernel_rfl) (by kernel_rfl) (by kernel_rfl) (fun _ _ _ h => h) (Or.inl ⟨by rfl, ?_⟩) (unhide HSS _ (unhide HK2)) ?_
              · intro w hSw
                obtain ⟨s0, s1, s2, s3⟩ := hSw
                first
                  | rfl
                  | (go_simp; done)
              try simp only [Act.put, List.setIfInBounds_toArray, List.set_cons_zero, List.set_cons_succ]
              refine wpAnyT_take (i := 19) (oi := zrsz19) (v := .int .i64 (j : Int)) rfl (by kernel_rfl) (by kernel_rfl) (by kernel_rfl) (by kernel_rfl) (fun _ _ _ h => h) (Or.inl ⟨by rfl, ?_⟩) (unhide HSS _ (unhide HK2)) ?_
              · intro w hSw
                obtain ⟨s0, s1, s2, s3⟩ := hSw
                first
                  | rfl
                  | (go_simp; done)
              try simp only [Act.put, List.setIfInBounds_toArray, List.set_cons_zero, List.set_cons_succ]
              refine wpAnyT_take (i := 20) (oi := zrsz20) (v := .pointer (some ⟨b, off + j * 3, none⟩)) rfl (by kernel_rfl) (by kernel_rfl) (by kernel_rfl) (by kernel_rfl) (fun _ _ _ h => h) (Or.inl ⟨by rfl, ?_⟩) (unhide HSS _ (unhide HK2)) ?_
              · intro w hSw
                obtain ⟨s0, s1, s2, s3⟩ := hSw
                first
                  | rfl
                  | (go_simp; done)
              try simp only [Act.put, List.setIfInBounds_toArray, List.set_cons_zero, List.set_cons_succ]
              refine wpAnyT_take (i := 21) (oi := zrsz21) (v := .pointer (some ⟨b, off + j * 3, none⟩)) rfl (by kernel_rfl) (by kernel_rfl) (by kernel_rfl) (by kernel_rfl) (fun _ _ _ h => h) (Or.inl ⟨by rfl, ?_⟩) (unhide HSS _ (unhide HK2)) ?_
              · intro w hSw
                obtain ⟨s0, s1, s2, s3⟩ := hSw
                first
                  | rfl
                  | (go_simp; done)
              try simp only [Act.put, List.setIfInBounds_toArray, List.set_cons_zero, List.set_cons_succ]
              refine wpAnyT_take (i := 22) (oi := zrsz22) (v := .int .i64 lv) rfl (by kernel_rfl) (by kernel_rfl) (by kernel_rfl) (by kernel_rfl) (fun _ _ _ h => h) (Or.inl ⟨by rfl, ?_⟩) (unhide HSS _ (unhide HK2)) ?_
              · intro w hSw
                obtain ⟨s0, s1, s2, s3⟩ := hSw
                first
                  | rfl
                  | (go_simp; done)
              try simp only [Act.put, List.setIfInBounds_toArray, List.set_cons_zero, List.set_cons_succ]
              refine wpAnyT_take (i := 23) (oi := zrsz23) (v := .bool true) rfl (by kernel_rfl) (by kernel_rfl) (by kernel_rfl) (by kernel_rfl) (fun _ _ _ h => h) (Or.inl ⟨by rfl, ?_⟩) (unhide HSS _ (unhide HK2)) ?_
              · intro w hSw
                obtain ⟨s0, s1, s2, s3⟩ := hSw
                first
                  | rfl
                  | (go_simp; done)
              try simp only [Act.put, List.setIfInBounds_toArray, List.set_cons_zero, List.set_cons_succ]
              refine wpAnyT_take (i := 24) (oi := zrsz24) (v := .bool true) rfl (by kernel_rfl) (by kernel_rfl) (by kernel_rfl) (by kernel_rfl) (fun _ _ _ h => h) (Or.inl ⟨by rfl, ?_⟩) (unhide HSS _ (unhide HK2)) ?_
              · intro w hSw
                obtain ⟨s0, s1, s2, s3⟩ := hSw
                first
                  | rfl
                  | (go_simp; done)
              try simp only [Act.put, List.setIfInBounds_toArray, List.set_cons_zero, List.set_cons_succ]
              refine wpAnyT_take (i := 25) (oi := zrsz25) (v := .pointer (some ⟨bb, 0, none⟩)) rfl (by kernel_rfl) (by kernel_rfl) (by kernel_rfl) (by kernel_rfl) (fun _ _ _ h => h) (Or.inl ⟨by rfl, ?_⟩) (unhide HSS _ (unhide HK2)) ?_
              · intro w hSw
                obtain ⟨s0, s1, s2, s3⟩ := hSw
                first
                  | rfl
                  | (go_simp; done)
              try simp only [Act.put, List.setIfInBounds_toArray, List.set_cons_zero, List.set_cons_succ]
              refine wpAnyT_take (i := 26) (oi := zrsz26) (v := .int .i64 p.kind) rfl (by kernel_rfl) (by kernel_rfl) (by kernel_rfl) (by kernel_rfl) (fun _ _ _ h => h) (Or.inl ⟨by rfl, ?_⟩) (unhide HSS _ (unhide HK2)) ?_
              · intro w hSw
                obtain ⟨s0, s1, s2, s3⟩ := hSw
                first
                  | rfl
                  | (go_simp; done)
              try simp only [Act.put, List.setIfInBounds_toArray, List.set_cons_zero, List.set_cons_succ]
              refine wpAnyT_take (i := 27) (oi := zrsz27) (v := .bool true) rfl (by kernel_rfl) (by kernel_rfl) (by kernel_rfl) (by kernel_rfl) (fun _ _ _ h => h) (Or.inl ⟨by rfl, ?_⟩) (unhide HSS _ (unhide HK2)) ?_
              · intro w hSw
                obtain ⟨s0, s1, s2, s3⟩ := hSw
                first
                  | rfl
                  | (go_simp; done)
              try simp only [Act.put, List.setIfInBounds_toArray, List.set_cons_zero, List.set_cons_succ]
              refine wpAnyT_take (i := 28) (oi := zrsz28) (v := .bool true) rfl (by kernel_rfl) (by kernel_rfl) (by kernel_rfl) (by kernel_rfl) (fun _ _ _ h => h) (Or.inl ⟨by rfl, ?_⟩) (unhide HSS _ (unhide HK2)) ?_
              · intro w hSw
                obtain ⟨s0, s1, s2, s3⟩ := hSw
                first
                  | rfl
                  | (go_simp; done)
              try simp only [Act.put, List.setIfInBounds_toArray, List.set_cons_zero, List.set_cons_succ]
              refine wpAnyT_take (i := 29) (oi := zrsz29) (v := .bool true) rfl (by kernel_rfl) (by kernel_rfl) (by kernel_rfl) (by kernel_rfl) (fun _ _ _ h => h) (Or.inl ⟨by rfl, ?_⟩) (unhide HSS _ (unhide HK2)) ?_
              · intro w hSw
                obtain ⟨s0, s1, s2, s3⟩ := hSw
                first
                  | rfl
                  | (go_simp; done)
              try simp only [Act.put, List.setIfInBounds_toArray, List.set_cons_zero, List.set_cons_succ]
              refine wpAnyT_take (i := 30) (oi := zrsz30) (v := .bool true) rfl (by kernel_rfl) (by kernel_rfl) (by kernel_rfl) (by kernel_rfl) (fun _ _ _ h => h) (Or.inl ⟨by rfl, ?_⟩) (unhide HSS _ (unhide HK2)) ?_
              · intro w hSw
                obtain ⟨s0, s1, s2, s3⟩ := hSw
                first
                  | rfl
                  | (go_simp; done)
              try simp only [Act.put, List.setIfInBounds_toArray, List.set_cons_zero, List.set_cons_succ]
              refine wpAnyT_take (i := 31) (oi := zrsz31) (v := .bool true) rfl (by kernel_rfl) (by kernel_rfl) (by kernel_rfl) (by kernel_rfl) (fun _ _ _ h => h) (Or.inl ⟨by rfl, ?_⟩) (unhide HSS _ (unhide HK2)) ?_
              · intro w hSw
                obtain ⟨s0, s1, s2, s3⟩ := hSw
                first
                  | rfl
                  | (go_simp; done)
              try simp only [Act.put, List.setIfInBounds_toArray, List.set_cons_zero, List.set_cons_succ]
              refine wpAnyT_done (by kernel_rfl) ?_ _
              have HB2 := hide ((unhide HBA).trans ((unhide HK2).mono (unhide HBA).size))
              obtain ⟨r0, r1, r2, r3⟩ := unhide HSS _ (unhide HK2)
              clear HSS HFI HBA HK2 r3 r2
              have HB3 := HB2
              clear HB2
              have HNO : Hid (sizeL (l.take ((j + 1) + 1)) = none) := hide (by rw [unhide HST]; simp [sizeStep, unhide HNF])
              go_wp2_with fail
              go_ret3
              have hz := sizeL_none (unhide HNO)
              exact ⟨by unfold szVal; rw [hz]; rfl, unhide HB3⟩
            · have hk2b : (p.kind == 2) = false := by simp [hk2]
              have HFO : Hid (followsB p.kind lv = true) := hide (by unfold followsB; simp [hk2]; omega)
              clear hsk hk2 hl3
              refine wp_region_T (S := fun W => W.cell? ⟨bb, 0, none⟩ = some (.int .i64 p.kind) ∧ W.cell? ⟨bb, 1, none⟩ = some (.int .i64 p.n) ∧ W.cell? ⟨bb, 2, none⟩ = some (.string p.text) ∧ W.cell? ⟨b, off + j * 3, none⟩ = some (.int .i64 lv)) (fun i => decide (i < 32)) (by kernel_rfl) (unhide HSS _ (Below.refl _ _).drew) (fun hHeld => ?_)
              refine wpAnyT_take (i := 0) (oi := zrsz0) (v := .agg #[.int .i64 p.kind, .int .i64 p.n, .string p.text]) rfl (by kernel_rfl) (by kernel_rfl) (by kernel_rfl) (by kernel_rfl) (fun _ _ _ h => h) (Or.inl ⟨by rfl, ?_⟩) hHeld ?_
              · intro w hSw
                obtain ⟨s0, s1, s2, s3⟩ := hSw
                first
                  | rfl
                  | (go_simp; done)
              try simp only [Act.put, List.setIfInBounds_toArray, List.set_cons_zero, List.set_cons_succ]
              refine wpAnyT_one (i := 1) (o := zrsz1) (by kernel_rfl) rfl (fun K hK => ?_)
              go_simp
              refine Calls.mono (unhide HFI _ (Below.refl _ _).drew) ?_
              rintro r w2 ⟨rfl, hb2⟩
              have HK2 := hide ((Below.refl wA.heap.size wA).drew.trans (hb2.mono (Below.refl wA.heap.size wA).drew.size))
              clear hb2
              go_wp2_with fail
              refine hK.out _ _ (fun _ => unhide HSS _ (unhide HK2)) ?_
              clear hK K
              try simp only [Act.put, List.setIfInBounds_toArray, List.set_cons_zero, List.set_cons_succ]
              refine wpAnyT_take (i := 2) (oi := zrsz2) (v := .bool false) rfl (by kernel_rfl) (by kernel_rfl) (by kernel_rfl) (by kernel_rfl) (fun _ _ _ h => h) (Or.inl ⟨by rfl, ?_⟩) (unhide HSS _ (unhide HK2)) ?_
              · intro w hSw
                obtain ⟨s0, s1, s2, s3⟩ := hSw
                first
                  | rfl
                  | (go_simp; done)
              try simp only [Act.put, List.setIfInBounds_toArray, List.set_cons_zero, List.set_cons_succ]
              refine wpAnyT_take (i := 3) (oi := zrsz3) (v := .bool false) rfl (by kernel_rfl) (by kernel_rfl) (by kernel_rfl) (by kernel_rfl) (fun _ _ _ h => h) (Or.inl ⟨by rfl, ?_⟩) (unhide HSS _ (unhide HK2)) ?_
              · intro w hSw
                obtain ⟨s0, s1, s2, s3⟩ := hSw
                first
                  | rfl
                  | (go_simp; done)
              try simp only [Act.put, List.setIfInBounds_toArray, List.set_cons_zero, List.set_cons_succ]
              refine wpAnyT_take (i := 4) (oi := zrsz4) (v := .int .i64 ((j : Int) + 1)) rfl (by kernel_rfl) (by kernel_rfl) (by kernel_rfl) (by kernel_rfl) (fun _ _ _ h => h) (Or.inl ⟨by rfl, ?_⟩) (unhide HSS _ (unhide HK2)) ?_
              · intro w hSw
                obtain ⟨s0, s1, s2, s3⟩ := hSw
                first
                  | rfl
                  | (go_simp; done)
              try simp only [Act.put, List.setIfInBounds_toArray, List.set_cons_zero, List.set_cons_succ]
              refine wpAnyT_take (i := 5) (oi := zrsz5) (v := .bool true) rfl (by kernel_rfl) (by kernel_rfl) (by kernel_rfl) (by kernel_rfl) (fun _ _ _ h => h) (Or.inl ⟨by rfl, ?_⟩) (unhide HSS _ (unhide HK2)) ?_
              · intro w hSw
                obtain ⟨s0, s1, s2, s3⟩ := hSw
                first
                  | rfl
                  | (go_simp; done)
              try simp only [Act.put, List.setIfInBounds_toArray, List.set_cons_zero, List.set_cons_succ]
              refine wpAnyT_take (i := 6) (oi := zrsz6) (v := .bool true) rfl (by kernel_rfl) (by kernel_rfl) (by kernel_rfl) (by kernel_rfl) (fun _ _ _ h => h) (Or.inl ⟨by rfl, ?_⟩) (unhide HSS _ (unhide HK2)) ?_
              · intro w hSw
                obtain ⟨s0, s1, s2, s3⟩ := hSw
                first
                  | rfl
                  | (go_simp; done)
              try simp only [Act.put, List.setIfInBounds_toArray, List.set_cons_zero, List.set_cons_succ]
              refine wpAnyT_take (i := 7) (oi := zrsz7) (v := .slice (some ⟨b, off, none⟩) n c) rfl (by kernel_rfl) (by kernel_rfl) (by kernel_rfl) (by kernel_rfl) (fun _ _ _ h => h) (Or.inl ⟨by rfl, ?_⟩) (unhide HSS _ (unhide HK2)) ?_
              · intro w hSw
                obtain ⟨s0, s1, s2, s3⟩ := hSw
                first
                  | rfl
                  | (go_simp; done)
              try simp only [Act.put, List.setIfInBounds_toArray, List.set_cons_zero, List.set_cons_succ]
              refine wpAnyT_take (i := 8) (oi := zrsz8) (v := .int .i64 ((j : Int) + 1)) rfl (by kernel_rfl) (by kernel_rfl) (by kernel_rfl) (by kernel_rfl) (fun _ _ _ h => h) (Or.inl ⟨by rfl, ?_⟩) (unhide HSS _ (unhide HK2)) ?_
              · intro w hSw
                obtain ⟨s0, s1, s2, s3⟩ := hSw
                first
                  | rfl
                  | (go_simp; done)
              try simp only [Act.put, List.setIfInBounds_toArray, List.set_cons_zero, List.set_cons_succ]
              refine wpAnyT_take (i := 9) (oi := zrsz9) (v := .int .i64 (j : Int)) rfl (by kernel_rfl) (by kernel_rfl) (by kernel_rfl) (by kernel_rfl) (fun _ _ _ h => h) (Or.inl ⟨by rfl, ?_⟩) (unhide HSS _ (unhide HK2)) ?_
              · intro w hSw
                obtain ⟨s0, s1, s2, s3⟩ := hSw
                first
                  | rfl
                  | (go_simp; done)
              try simp only [Act.put, List.setIfInBounds_toArray, List.set_cons_zero, List.set_cons_succ]
              refine wpAnyT_take (i := 10) (oi := zrsz10) (v := .pointer (some ⟨b, off + j * 3, none⟩)) rfl (by kernel_rfl) (by kernel_rfl) (by kernel_rfl) (by kernel_rfl) (fun _ _ _ h => h) (Or.inl ⟨by rfl, ?_⟩) (unhide HSS _ (unhide HK2)) ?_
              · intro w hSw
                obtain ⟨s0, s1, s2, s3⟩ := hSw
                first
                  | rfl
                  | (go_simp; done)
              try simp only [Act.put, List.setIfInBounds_toArray, List.set_cons_zero, List.set_cons_succ]
              refine wpAnyT_take (i := 11) (oi := zrsz11) (v := .pointer (some ⟨b, off + j * 3, none⟩)) rfl (by kernel_rfl) (by kernel_rfl) (by kernel_rfl) (by kernel_rfl) (fun _ _ _ h => h) (Or.inl ⟨by rfl, ?_⟩) (unhide HSS _ (unhide HK2)) ?_
              · intro w hSw
                obtain ⟨s0, s1, s2, s3⟩ := hSw
                first
                  | rfl
                  | (go_simp; done)
              try simp only [Act.put, List.setIfInBounds_toArray, List.set_cons_zero, List.set_cons_succ]
              refine wpAnyT_take (i := 12) (oi := zrsz12) (v := .int .i64 lv) rfl (by kernel_rfl) (by kernel_rfl) (by kernel_rfl) (by kernel_rfl) (fun _ _ _ h => h) (Or.inl ⟨by rfl, ?_⟩) (unhide HSS _ (unhide HK2)) ?_
              · intro w hSw
                obtain ⟨s0, s1, s2, s3⟩ := hSw
                first
                  | rfl
                  | (go_simp; done)
              try simp only [Act.put, List.setIfInBounds_toArray, List.set_cons_zero, List.set_cons_succ]
              refine wpAnyT_take (i := 13) (oi := zrsz13) (v := .pointer (some ⟨bb, 0, none⟩)) rfl (by kernel_rfl) (by kernel_rfl) (by kernel_rfl) (by kernel_rfl) (fun _ _ _ h => h) (Or.inl ⟨by rfl, ?_⟩) (unhide HSS _ (unhide HK2)) ?_
              · intro w hSw
                obtain ⟨s0, s1, s2, s3⟩ := hSw
                first
                  | rfl
                  | (go_simp; done)
              try simp only [Act.put, List.setIfInBounds_toArray, List.set_cons_zero, List.set_cons_succ]
              refine wpAnyT_take (i := 14) (oi := zrsz14) (v := .int .i64 p.kind) rfl (by kernel_rfl) (by kernel_rfl) (by kernel_rfl) (by kernel_rfl) (fun _ _ _ h => h) (Or.inl ⟨by rfl, ?_⟩) (unhide HSS _ (unhide HK2)) ?_
              · intro w hSw
                obtain ⟨s0, s1, s2, s3⟩ := hSw
                first
                  | rfl
                  | (go_simp; done)
              try simp only [Act.put, List.setIfInBounds_toArray, List.set_cons_zero, List.set_cons_succ]
              refine wpAnyT_take (i := 15) (oi := zrsz15) (v := .bool false) rfl (by kernel_rfl) (by kernel_rfl) (by kernel_rfl) (by kernel_rfl) (fun _ _ _ h => h) (Or.inl ⟨by rfl, ?_⟩) (unhide HSS _ (unhide HK2)) ?_
              · intro w hSw
                obtain ⟨s0, s1, s2, s3⟩ := hSw
                first
                  | rfl
                  | (go_simp; done)
              try simp only [Act.put, List.setIfInBounds_toArray, List.set_cons_zero, List.set_cons_succ]
              refine wpAnyT_take (i := 16) (oi := zrsz16) (v := .bool false) rfl (by kernel_rfl) (by kernel_rfl) (by kernel_rfl) (by kernel_rfl) (fun _ _ _ h => h) (Or.inl ⟨by rfl, ?_⟩) (unhide HSS _ (unhide HK2)) ?_
              · intro w hSw
                obtain ⟨s0, s1, s2, s3⟩ := hSw
                first
                  | rfl
                  | (go_simp; done)
              try simp only [Act.put, List.setIfInBounds_toArray, List.set_cons_zero, List.set_cons_succ]
              refine wpAnyT_take (i := 17) (oi := zrsz17) (v := .slice (some ⟨b, off, none⟩) n c) rfl (by kernel_rfl) (by kernel_rfl) (by kernel_rfl) (by kernel_rfl) (fun _ _ _ h => h) (Or.inl ⟨by rfl, ?_⟩) (unhide HSS _ (unhide HK2)) ?_
              · intro w hSw
                obtain ⟨s0, s1, s2, s3⟩ := hSw
                first
                  | rfl
                  | (go_simp; done)
              try simp only [Act.put, List.setIfInBounds_toArray, List.set_cons_zero, List.set_cons_succ]
              refine wpAnyT_take (i := 18) (oi := zrsz18) (v := .int .i64 ((j : Int) + 1)) rfl (by kernel_rfl) (by kernel_rfl) (by kernel_rfl) (by kernel_rfl) (fun _ _ _ h => h) (Or.inl ⟨by rfl, ?_⟩) (unhide HSS _ (unhide HK2)) ?_
              · intro w hSw
                obtain ⟨s0, s1, s2, s3⟩ := hSw
                first
                  | rfl
                  | (go_simp; done)
              try simp only [Act.put, List.setIfInBounds_toArray, List.set_cons_zero, List.set_cons_succ]
              refine wpAnyT_take (i := 19) (oi := zrsz19) (v := .int .i64 (j : Int)) rfl (by kernel_rfl) (by kernel_rfl) (by kernel_rfl) (by kernel_rfl) (fun _ _ _ h => h) (Or.inl ⟨by rfl, ?_⟩) (unhide HSS _ (unhide HK2)) ?_
              · intro w hSw
                obtain ⟨s0, s1, s2, s3⟩ := hSw
                first
                  | rfl
                  | (go_simp; done)
              try simp only [Act.put, List.setIfInBounds_toArray, List.set_cons_zero, List.set_cons_succ]
              refine wpAnyT_take (i := 20) (oi := zrsz20) (v := .pointer (some ⟨b, off + j * 3, none⟩)) rfl (by kernel_rfl) (by kernel_rfl) (by kernel_rfl) (by kernel_rfl) (fun _ _ _ h => h) (Or.inl ⟨by rfl, ?_⟩) (unhide HSS _ (unhide HK2)) ?_
              · intro w hSw
                obtain ⟨s0, s1, s2, s3⟩ := hSw
                first
                  | rfl
                  | (go_simp; done)
              try simp only [Act.put, List.setIfInBounds_toArray, List.set_cons_zero, List.set_cons_succ]
              refine wpAnyT_take (i := 21) (oi := zrsz21) (v := .pointer (some ⟨b, off + j * 3, none⟩)) rfl (by kernel_rfl) (by kernel_rfl) (by kernel_rfl) (by kernel_rfl) (fun _ _ _ h => h) (Or.inl ⟨by rfl, ?_⟩) (unhide HSS _ (unhide HK2)) ?_
              · intro w hSw
                obtain ⟨s0, s1, s2, s3⟩ := hSw
                first
                  | rfl
                  | (go_simp; done)
              try simp only [Act.put, List.setIfInBounds_toArray, List.set_cons_zero, List.set_cons_succ]
              refine wpAnyT_take (i := 22) (oi := zrsz22) (v := .int .i64 lv) rfl (by kernel_rfl) (by kernel_rfl) (by kernel_rfl) (by kernel_rfl) (fun _ _ _ h => h) (Or.inl ⟨by rfl, ?_⟩) (unhide HSS _ (unhide HK2)) ?_
              · intro w hSw
                obtain ⟨s0, s1, s2, s3⟩ := hSw
                first
                  | rfl
                  | (go_simp; done)
              try simp only [Act.put, List.setIfInBounds_toArray, List.set_cons_zero, List.set_cons_succ]
              refine wpAnyT_take (i := 23) (oi := zrsz23) (v := .bool true) rfl (by kernel_rfl) (by kernel_rfl) (by kernel_rfl) (by kernel_rfl) (fun _ _ _ h => h) (Or.inl ⟨by rfl, ?_⟩) (unhide HSS _ (unhide HK2)) ?_
              · intro w hSw
                obtain ⟨s0, s1, s2, s3⟩ := hSw
                first
                  | rfl
                  | (go_simp; done)
              try simp only [Act.put, List.setIfInBounds_toArray, List.set_cons_zero, List.set_cons_succ]
              refine wpAnyT_take (i := 24) (oi := zrsz24) (v := .bool true) rfl (by kernel_rfl) (by kernel_rfl) (by kernel_rfl) (by kernel_rfl) (fun _ _ _ h => h) (Or.inl ⟨by rfl, ?_⟩) (unhide HSS _ (unhide HK2)) ?_
              · intro w hSw
                obtain ⟨s0, s1, s2, s3⟩ := hSw
                first
                  | rfl
                  | (go_simp; done)
              try simp only [Act.put, List.setIfInBounds_toArray, List.set_cons_zero, List.set_cons_succ]
              refine wpAnyT_take (i := 25) (oi := zrsz25) (v := .pointer (some ⟨bb, 0, none⟩)) rfl (by kernel_rfl) (by kernel_rfl) (by kernel_rfl) (by kernel_rfl) (fun _ _ _ h => h) (Or.inl ⟨by rfl, ?_⟩) (unhide HSS _ (unhide HK2)) ?_
              · intro w hSw
                obtain ⟨s0, s1, s2, s3⟩ := hSw
                first
                  | rfl
                  | (go_simp; done)
              try simp only [Act.put, List.setIfInBounds_toArray, List.set_cons_zero, List.set_cons_succ]
              refine wpAnyT_take (i := 26) (oi := zrsz26) (v := .int .i64 p.kind) rfl (by kernel_rfl) (by kernel_rfl) (by kernel_rfl) (by kernel_rfl) (fun _ _ _ h => h) (Or.inl ⟨by rfl, ?_⟩) (unhide HSS _ (unhide HK2)) ?_
              · intro w hSw
                obtain ⟨s0, s1, s2, s3⟩ := hSw
                first
                  | rfl
                  | (go_simp; done)
              try simp only [Act.put, List.setIfInBounds_toArray, List.set_cons_zero, List.set_cons_succ]
              refine wpAnyT_take (i := 27) (oi := zrsz27) (v := .bool false) rfl (by kernel_rfl) (by kernel_rfl) (by kernel_rfl) (by kernel_rfl) (fun _ _ _ h => h) (Or.inl ⟨by rfl, ?_⟩) (unhide HSS _ (unhide HK2)) ?_
              · intro w hSw
                obtain ⟨s0, s1, s2, s3⟩ := hSw
                first
                  | rfl
                  | (go_simp; done)
              try simp only [Act.put, List.setIfInBounds_toArray, List.set_cons_zero, List.set_cons_succ]
              refine wpAnyT_take (i := 28) (oi := zrsz28) (v := .bool false) rfl (by kernel_rfl) (by kernel_rfl) (by kernel_rfl) (by kernel_rfl) (fun _ _ _ h => h) (Or.inl ⟨by rfl, ?_⟩) (unhide HSS _ (unhide HK2)) ?_
              · intro w hSw
                obtain ⟨s0, s1, s2, s3⟩ := hSw
                first
                  | rfl
                  | (go_simp; done)
              try simp only [Act.put, List.setIfInBounds_toArray, List.set_cons_zero, List.set_cons_succ]
              refine wpAnyT_take (i := 29) (oi := zrsz29) (v := .bool false) rfl (by kernel_rfl) (by kernel_rfl) (by kernel_rfl) (by kernel_rfl) (fun _ _ _ h => h) (Or.inl ⟨by rfl, ?_⟩) (unhide HSS _ (unhide HK2)) ?_
              · intro w hSw
                obtain ⟨s0, s1, s2, s3⟩ := hSw
                first
                  | rfl
                  | (go_simp; done)
              try simp only [Act.put, List.setIfInBounds_toArray, List.set_cons_zero, List.set_cons_succ]
              refine wpAnyT_take (i := 30) (oi := zrsz30) (v := .bool false) rfl (by kernel_rfl) (by kernel_rfl) (by kernel_rfl) (by kernel_rfl) (fun _ _ _ h => h) (Or.inl ⟨by rfl, ?_⟩) (unhide HSS _ (unhide HK2)) ?_
              · intro w hSw
                obtain ⟨s0, s1, s2, s3⟩ := hSw
                first
                  | rfl
                  | (go_simp; done)
              try simp only [Act.put, List.setIfInBounds_toArray, List.set_cons_zero, List.set_cons_succ]
              refine wpAnyT_take (i := 31) (oi := zrsz31) (v := .bool false) rfl (by kernel_rfl) (by kernel_rfl) (by kernel_rfl) (by kernel_rfl) (fun _ _ _ h => h) (Or.inl ⟨by rfl, ?_⟩) (unhide HSS _ (unhide HK2)) ?_
              · intro w hSw
                obtain ⟨s0, s1, s2, s3⟩ := hSw
                first
                  | rfl
                  | (go_simp; done)
              try simp only [Act.put, List.setIfInBounds_toArray, List.set_cons_zero, List.set_cons_succ]
              refine wpAnyT_done (by kernel_rfl) ?_ _
              have HB2 := hide ((unhide HBA).trans ((unhide HK2).mono (unhide HBA).size))
              obtain ⟨r0, r1, r2, r3⟩ := unhide HSS _ (unhide HK2)
              clear HSS HFI HBA HK2 r3 r2
              have HB3 := HB2
              clear HB2
              by_cases k2 : p.kind = 2
              · rw [k2] at r0
                have K2 := hide k2
                by_cases hA : 1099511627776 < fv
                · exfalso; omega
                by_cases hB : 1099511627776 < tv + p.n
                · have HNO : Hid (sizeL (l.take (j + 1 + 1)) = none) := hide (by rw [unhide HST]; simp only [sizeStep]; rw [if_pos ⟨unhide HFB, unhide HFO⟩]; simp only [unhide K2, if_true, show ((2 : Int) = 3) = False from by simp, if_false]; rw [if_pos (.inr hB)])
                  go_wp2_with fail
                  go_ret3
                  have hz := sizeL_none (unhide HNO)
                  exact ⟨by unfold szVal; rw [hz]; rfl, unhide HB3⟩
                have HNX : Hid (sizeL (l.take (j + 1 + 1)) = some (fv, tv + p.n, p.kind)) := hide (by rw [unhide HST]; simp only [sizeStep]; rw [if_pos ⟨unhide HFB, unhide HFO⟩]; simp only [unhide K2, if_true, show ((2 : Int) = 3) = False from by simp, if_false]; rw [if_neg (by omega)])
                go_wp2_with fail
                exact ⟨⟨j + 1 + 1, by omega, by simp, ⟨_, _, _, rfl, rfl, HNX⟩, HB3⟩, by simp [intOf]; omega⟩
              have k2b : (p.kind == 2) = false := by simp [k2]
              by_cases k3 : p.kind = 3
              · rw [k3] at r0
                have K3 := hide k3
                by_cases hA : 1099511627776 < fv + p.n
                · have HNO : Hid (sizeL (l.take (j + 1 + 1)) = none) := hide (by rw [unhide HST]; simp only [sizeStep]; rw [if_pos ⟨unhide HFB, unhide HFO⟩]; simp only [unhide K3, if_true, show ((3 : Int) = 2) = False from by simp, if_false]; rw [if_pos (.inl hA)])
                  go_wp2_with fail
                  go_ret3
                  have hz := sizeL_none (unhide HNO)
                  exact ⟨by unfold szVal; rw [hz]; rfl, unhide HB3⟩
                by_cases hB : 1099511627776 < tv
                · exfalso; omega
                have HNX : Hid (sizeL (l.take (j + 1 + 1)) = some (fv + p.n, tv, p.kind)) := hide (by rw [unhide HST]; simp only [sizeStep]; rw [if_pos ⟨unhide HFB, unhide HFO⟩]; simp only [unhide K3, if_true, show ((3 : Int) = 2) = False from by simp, if_false]; rw [if_neg (by omega)])
                go_wp2_with fail
                exact ⟨⟨j + 1 + 1, by omega, by simp, ⟨_, _, _, rfl, rfl, HNX⟩, HB3⟩, by simp [intOf]; omega⟩
              have k3b : (p.kind == 3) = false := by simp [k3]
              by_cases hA : 1099511627776 < fv + p.n
              · have HNO : Hid (sizeL (l.take (j + 1 + 1)) = none) := hide (by rw [unhide HST]; simp only [sizeStep]; rw [if_pos ⟨unhide HFB, unhide HFO⟩]; simp only [k2, k3, if_false]; rw [if_pos (.inl hA)])
                go_wp2_with fail
                go_ret3
                have hz := sizeL_none (unhide HNO)
                exact ⟨by unfold szVal; rw [hz]; rfl, unhide HB3⟩
              by_cases hB : 1099511627776 < tv + p.n
              · have HNO : Hid (sizeL (l.take (j + 1 + 1)) = none) := hide (by rw [unhide HST]; simp only [sizeStep]; rw [if_pos ⟨unhide HFB, unhide HFO⟩]; simp only [k2, k3, if_false]; rw [if_pos (.inr hB)])
                go_wp2_with fail
                go_ret3
                have hz := sizeL_none (unhide HNO)
                exact ⟨by unfold szVal; rw [hz]; rfl, unhide HB3⟩
              have HNX : Hid (sizeL (l.take (j + 1 + 1)) = some (fv + p.n, tv + p.n, p.kind)) := hide (by rw [unhide HST]; simp only [sizeStep]; rw [if_pos ⟨unhide HFB, unhide HFO⟩]; simp only [k2, k3, if_false]; rw [if_neg (by omega)])
              go_wp2_with fail
              exact ⟨⟨j + 1 + 1, by omega, by simp, ⟨_, _, _, rfl, rfl, HNX⟩, HB3⟩, by simp [intOf]; omega⟩
          · have hl3b : (lv == 3) = false := by simp [hl3]
            have HFO : Hid (followsB p.kind lv = true) := hide (by unfold followsB; simp [hl3]; omega)
            clear hsk hl3
            refine wp_region_T (S := fun W => W.cell? ⟨bb, 0, none⟩ = some (.int .i64 p.kind) ∧ W.cell? ⟨bb, 1, none⟩ = some (.int .i64 p.n) ∧ W.cell? ⟨bb, 2, none⟩ = some (.string p.text) ∧ W.cell? ⟨b, off + j * 3, none⟩ = some (.int .i64 lv)) (fun i => decide (i < 32)) (by kernel_rfl) (unhide HSS _ (Below.refl _ _).drew) (fun hHeld => ?_)
            refine wpAnyT_take (i := 0) (oi := zrsz0) (v := .agg #[.int .i64 p.kind, .int .i64 p.n, .string p.text]) rfl (by kernel_rfl) (by kernel_rfl) (by kernel_rfl) (by kernel_rfl) (fun _ _ _ h => h) (Or.inl ⟨by rfl, ?_⟩) hHeld ?_
            · intro w hSw
              obtain ⟨s0, s1, s2, s3⟩ := hSw
              first
                | rfl
                | (go_simp; done)
            try simp only [Act.put, List.setIfInBounds_toArray, List.set_cons_zero, List.set_cons_succ]
            refine wpAnyT_one (i := 1) (o := zrsz1) (by kernel_rfl) rfl (fun K hK => ?_)
            go_simp
            refine Calls.mono (unhide HFI _ (Below.refl _ _).drew) ?_
            rintro r w2 ⟨rfl, hb2⟩
            have HK2 := hide ((Below.refl wA.heap.size wA).drew.trans (hb2.mono (Below.refl wA.heap.size wA).drew.size))
            clear hb2
            go_wp2_with fail
            refine hK.out _ _ (fun _ => unhide HSS _ (unhide HK2)) ?_
            clear hK K
            try simp only [Act.put, List.setIfInBounds_toArray, List.set_cons_zero, List.set_cons_succ]
            refine wpAnyT_take (i := 2) (oi := zrsz2) (v := .bool false) rfl (by kernel_rfl) (by kernel_rfl) (by kernel_rfl) (by kernel_rfl) (fun _ _ _ h => h) (Or.inl ⟨by rfl, ?_⟩) (unhide HSS _ (unhide HK2)) ?_
            · intro w hSw
              obtain ⟨s0, s1, s2, s3⟩ := hSw
              first
                | rfl
                | (go_simp; done)
            try simp only [Act.put, List.setIfInBounds_toArray, List.set_cons_zero, List.set_cons_succ]
            refine wpAnyT_take (i := 3) (oi := zrsz3) (v := .bool false) rfl (by kernel_rfl) (by kernel_rfl) (by kernel_rfl) (by kernel_rfl) (fun _ _ _ h => h) (Or.inl ⟨by rfl, ?_⟩) (unhide HSS _ (unhide HK2)) ?_
            · intro w hSw
              obtain ⟨s0, s1, s2, s3⟩ := hSw
              first
                | rfl
                | (go_simp; done)
            try simp only [Act.put, List.setIfInBounds_toArray, List.set_cons_zero, List.set_cons_succ]
            refine wpAnyT_take (i := 4) (oi := zrsz4) (v := .int .i64 ((j : Int) + 1)) rfl (by kernel_rfl) (by kernel_rfl) (by kernel_rfl) (by kernel_rfl) (fun _ _ _ h => h) (Or.inl ⟨by rfl, ?_⟩) (unhide HSS _ (unhide HK2)) ?_
            · intro w hSw
              obtain ⟨s0, s1, s2, s3⟩ := hSw
              first
                | rfl
                | (go_simp; done)
            try simp only [Act.put, List.setIfInBounds_toArray, List.set_cons_zero, List.set_cons_succ]
            refine wpAnyT_take (i := 5) (oi := zrsz5) (v := .bool true) rfl (by kernel_rfl) (by kernel_rfl) (by kernel_rfl) (by kernel_rfl) (fun _ _ _ h => h) (Or.inl ⟨by rfl, ?_⟩) (unhide HSS _ (unhide HK2)) ?_
            · intro w hSw
              obtain ⟨s0, s1, s2, s3⟩ := hSw
              first
                | rfl
                | (go_simp; done)
            try simp only [Act.put, List.setIfInBounds_toArray, List.set_cons_zero, List.set_cons_succ]
            refine wpAnyT_take (i := 6) (oi := zrsz6) (v := .bool true) rfl (by kernel_rfl) (by kernel_rfl) (by kernel_rfl) (by kernel_rfl) (fun _ _ _ h => h) (Or.inl ⟨by rfl, ?_⟩) (unhide HSS _ (unhide HK2)) ?_
            · intro w hSw
              obtain ⟨s0, s1, s2, s3⟩ := hSw
              first
                | rfl
                | (go_simp; done)
            try simp only [Act.put, List.setIfInBounds_toArray, List.set_cons_zero, List.set_cons_succ]
            refine wpAnyT_take (i := 7) (oi := zrsz7) (v := .slice (some ⟨b, off, none⟩) n c) rfl (by kernel_rfl) (by kernel_rfl) (by kernel_rfl) (by kernel_rfl) (fun _ _ _ h => h) (Or.inl ⟨by rfl, ?_⟩) (unhide HSS _ (unhide HK2)) ?_
            · intro w hSw
              obtain ⟨s0, s1, s2, s3⟩ := hSw
              first
                | rfl
                | (go_simp; done)
            try simp only [Act.put, List.setIfInBounds_toArray, List.set_cons_zero, List.set_cons_succ]
            refine wpAnyT_take (i := 8) (oi := zrsz8) (v := .int .i64 ((j : Int) + 1)) rfl (by kernel_rfl) (by kernel_rfl) (by kernel_rfl) (by kernel_rfl) (fun _ _ _ h => h) (Or.inl ⟨by rfl, ?_⟩) (unhide HSS _ (unhide HK2)) ?_
            · intro w hSw
              obtain ⟨s0, s1, s2, s3⟩ := hSw
              first
                | rfl
                | (go_simp; done)
            try simp only [Act.put, List.setIfInBounds_toArray, List.set_cons_zero, List.set_cons_succ]
            refine wpAnyT_take (i := 9) (oi := zrsz9) (v := .int .i64 (j : Int)) rfl (by kernel_rfl) (by kernel_rfl) (by kernel_rfl) (by kernel_rfl) (fun _ _ _ h => h) (Or.inl ⟨by rfl, ?_⟩) (unhide HSS _ (unhide HK2)) ?_
            · intro w hSw
              obtain ⟨s0, s1, s2, s3⟩ := hSw
              first
                | rfl
                | (go_simp; done)
            try simp only [Act.put, List.setIfInBounds_toArray, List.set_cons_zero, List.set_cons_succ]
            refine wpAnyT_take (i := 10) (oi := zrsz10) (v := .pointer (some ⟨b, off + j * 3, none⟩)) rfl (by kernel_rfl) (by kernel_rfl) (by kernel_rfl) (by kernel_rfl) (fun _ _ _ h => h) (Or.inl ⟨by rfl, ?_⟩) (unhide HSS _ (unhide HK2)) ?_
            · intro w hSw
              obtain ⟨s0, s1, s2, s3⟩ := hSw
              first
                | rfl
                | (go_simp; done)
            try simp only [Act.put, List.setIfInBounds_toArray, List.set_cons_zero, List.set_cons_succ]
            refine wpAnyT_take (i := 11) (oi := zrsz11) (v := .pointer (some ⟨b, off + j * 3, none⟩)) rfl (by kernel_rfl) (by kernel_rfl) (by kernel_rfl) (by kernel_rfl) (fun _ _ _ h => h) (Or.inl ⟨by rfl, ?_⟩) (unhide HSS _ (unhide HK2)) ?_
            · intro w hSw
              obtain ⟨s0, s1, s2, s3⟩ := hSw
              first
                | rfl
                | (go_simp; done)
            try simp only [Act.put, List.setIfInBounds_toArray, List.set_cons_zero, List.set_cons_succ]
            refine wpAnyT_take (i := 12) (oi := zrsz12) (v := .int .i64 lv) rfl (by kernel_rfl) (by kernel_rfl) (by kernel_rfl) (by kernel_rfl) (fun _ _ _ h => h) (Or.inl ⟨by rfl, ?_⟩) (unhide HSS _ (unhide HK2)) ?_
            · intro w hSw
              obtain ⟨s0, s1, s2, s3⟩ := hSw
              first
                | rfl
                | (go_simp; done)
            try simp only [Act.put, List.setIfInBounds_toArray, List.set_cons_zero, List.set_cons_succ]
            refine wpAnyT_take (i := 13) (oi := zrsz13) (v := .pointer (some ⟨bb, 0, none⟩)) rfl (by kernel_rfl) (by kernel_rfl) (by kernel_rfl) (by kernel_rfl) (fun _ _ _ h => h) (Or.inl ⟨by rfl, ?_⟩) (unhide HSS _ (unhide HK2)) ?_
            · intro w hSw
              obtain ⟨s0, s1, s2, s3⟩ := hSw
              first
                | rfl
                | (go_simp; done)
            try simp only [Act.put, List.setIfInBounds_toArray, List.set_cons_zero, List.set_cons_succ]
            refine wpAnyT_take (i := 14) (oi := zrsz14) (v := .int .i64 p.kind) rfl (by kernel_rfl) (by kernel_rfl) (by kernel_rfl) (by kernel_rfl) (fun _ _ _ h => h) (Or.inl ⟨by rfl, ?_⟩) (unhide HSS _ (unhide HK2)) ?_
            · intro w hSw
              obtain ⟨s0, s1, s2, s3⟩ := hSw
              first
                | rfl
                | (go_simp; done)
            try simp only [Act.put, List.setIfInBounds_toArray, List.set_cons_zero, List.set_cons_succ]
            refine wpAnyT_take (i := 15) (oi := zrsz15) (v := .bool false) rfl (by kernel_rfl) (by kernel_rfl) (by kernel_rfl) (by kernel_rfl) (fun _ _ _ h => h) (Or.inl ⟨by rfl, ?_⟩) (unhide HSS _ (unhide HK2)) ?_
            · intro w hSw
              obtain ⟨s0, s1, s2, s3⟩ := hSw
              first
                | rfl
                | (go_simp; done)
            try simp only [Act.put, List.setIfInBounds_toArray, List.set_cons_zero, List.set_cons_succ]
            refine wpAnyT_take (i := 16) (oi := zrsz16) (v := .bool false) rfl (by kernel_rfl) (by kernel_rfl) (by kernel_rfl) (by kernel_rfl) (fun _ _ _ h => h) (Or.inl ⟨by rfl, ?_⟩) (unhide HSS _ (unhide HK2)) ?_
            · intro w hSw
              obtain ⟨s0, s1, s2, s3⟩ := hSw
              first
                | rfl
                | (go_simp; done)
            try simp only [Act.put, List.setIfInBounds_toArray, List.set_cons_zero, List.set_cons_succ]
            refine wpAnyT_take (i := 17) (oi := zrsz17) (v := .slice (some ⟨b, off, none⟩) n c) rfl (by kernel_rfl) (by kernel_rfl) (by kernel_rfl) (by kernel_rfl) (fun _ _ _ h => h) (Or.inl ⟨by rfl, ?_⟩) (unhide HSS _ (unhide HK2)) ?_
            · intro w hSw
              obtain ⟨s0, s1, s2, s3⟩ := hSw
              first
                | rfl
                | (go_simp; done)
            try simp only [Act.put, List.setIfInBounds_toArray, List.set_cons_zero, List.set_cons_succ]
            refine wpAnyT_take (i := 18) (oi := zrsz18) (v := .int .i64 ((j : Int) + 1)) rfl (by kernel_rfl) (by kernel_rfl) (by kernel_rfl) (by kernel_rfl) (fun _ _ _ h => h) (Or.inl ⟨by rfl, ?_⟩) (unhide HSS _ (unhide HK2)) ?_
            · intro w hSw
              obtain ⟨s0, s1, s2, s3⟩ := hSw
              first
                | rfl
                | (go_simp; done)
            try simp only [Act.put, List.setIfInBounds_toArray, List.set_cons_zero, List.set_cons_succ]
            refine wpAnyT_take (i := 19) (oi := zrsz19) (v := .int .i64 (j : Int)) rfl (by kernel_rfl) (by kernel_rfl) (by kernel_rfl) (by kernel_rfl) (fun _ _ _ h => h) (Or.inl ⟨by rfl, ?_⟩) (unhide HSS _ (unhide HK2)) ?_
            · intro w hSw
              obtain ⟨s0, s1, s2, s3⟩ := hSw
              first
                | rfl
                | (go_simp; done)
            try simp only [Act.put, List.setIfInBounds_toArray, List.set_cons_zero, List.set_cons_succ]
            refine wpAnyT_take (i := 20) (oi := zrsz20) (v := .pointer (some ⟨b, off + j * 3, none⟩)) rfl (by kernel_rfl) (by kernel_rfl) (by kernel_rfl) (by kernel_rfl) (fun _ _ _ h => h) (Or.inl ⟨by rfl, ?_⟩) (unhide HSS _ (unhide HK2)) ?_
            · intro w hSw
              obtain ⟨s0, s1, s2, s3⟩ := hSw
              first
                | rfl
                | (go_simp; done)
            try simp only [Act.put, List.setIfInBounds_toArray, List.set_cons_zero, List.set_cons_succ]
            refine wpAnyT_take (i := 21) (oi := zrsz21) (v := .pointer (some ⟨b, off + j * 3, none⟩)) rfl (by kernel_rfl) (by kernel_rfl) (by kernel_rfl) (by kernel_rfl) (fun _ _ _ h => h) (Or.inl ⟨by rfl, ?_⟩) (unhide HSS _ (unhide HK2)) ?_
            · intro w hSw
              obtain ⟨s0, s1, s2, s3⟩ := hSw
              first
                | rfl
                | (go_simp; done)
            try simp only [Act.put, List.setIfInBounds_toArray, List.set_cons_zero, List.set_cons_succ]
            refine wpAnyT_take (i := 22) (oi := zrsz22) (v := .int .i64 lv) rfl (by kernel_rfl) (by kernel_rfl) (by kernel_rfl) (by kernel_rfl) (fun _ _ _ h => h) (Or.inl ⟨by rfl, ?_⟩) (unhide HSS _ (unhide HK2)) ?_
            · intro w hSw
              obtain ⟨s0, s1, s2, s3⟩ := hSw
              first
                | rfl
                | (go_simp; done)
            try simp only [Act.put, List.setIfInBounds_toArray, List.set_cons_zero, List.set_cons_succ]
            refine wpAnyT_take (i := 23) (oi := zrsz23) (v := .bool false) rfl (by kernel_rfl) (by kernel_rfl) (by kernel_rfl) (by kernel_rfl) (fun _ _ _ h => h) (Or.inl ⟨by rfl, ?_⟩) (unhide HSS _ (unhide HK2)) ?_
            · intro w hSw
              obtain ⟨s0, s1, s2, s3⟩ := hSw
              first
                | rfl
                | (go_simp; done)
            try simp only [Act.put, List.setIfInBounds_toArray, List.set_cons_zero, List.set_cons_succ]
            refine wpAnyT_take (i := 24) (oi := zrsz24) (v := .bool false) rfl (by kernel_rfl) (by kernel_rfl) (by kernel_rfl) (by kernel_rfl) (fun _ _ _ h => h) (Or.inl ⟨by rfl, ?_⟩) (unhide HSS _ (unhide HK2)) ?_
            · intro w hSw
              obtain ⟨s0, s1, s2, s3⟩ := hSw
              first
                | rfl
                | (go_simp; done)
            try simp only [Act.put, List.setIfInBounds_toArray, List.set_cons_zero, List.set_cons_succ]
            refine wpAnyT_take (i := 25) (oi := zrsz25) (v := undef) rfl (by kernel_rfl) (by kernel_rfl) (by kernel_rfl) (by kernel_rfl) (fun _ _ _ h => h) (Or.inr ⟨by rfl, rfl⟩) (unhide HSS _ (unhide HK2)) ?_
            try simp only [Act.put, List.setIfInBounds_toArray, List.set_cons_zero, List.set_cons_succ]
            refine wpAnyT_take (i := 26) (oi := zrsz26) (v := undef) rfl (by kernel_rfl) (by kernel_rfl) (by kernel_rfl) (by kernel_rfl) (fun _ _ _ h => h) (Or.inr ⟨by rfl, rfl⟩) (unhide HSS _ (unhide HK2)) ?_
            try simp only [Act.put, List.setIfInBounds_toArray, List.set_cons_zero, List.set_cons_succ]
            refine wpAnyT_take (i := 27) (oi := zrsz27) (v := undef) rfl (by kernel_rfl) (by kernel_rfl) (by kernel_rfl) (by kernel_rfl) (fun _ _ _ h => h) (Or.inr ⟨by rfl, rfl⟩) (unhide HSS _ (unhide HK2)) ?_
            try simp only [Act.put, List.setIfInBounds_toArray, List.set_cons_zero, List.set_cons_succ]
            refine wpAnyT_take (i := 28) (oi := zrsz28) (v := .bool false) rfl (by kernel_rfl) (by kernel_rfl) (by kernel_rfl) (by kernel_rfl) (fun _ _ _ h => h) (Or.inl ⟨by rfl, ?_⟩) (unhide HSS _ (unhide HK2)) ?_
            · intro w hSw
              obtain ⟨s0, s1, s2, s3⟩ := hSw
              first
                | rfl
                | (go_simp; done)
            try simp only [Act.put, List.setIfInBounds_toArray, List.set_cons_zero, List.set_cons_succ]
            refine wpAnyT_take (i := 29) (oi := zrsz29) (v := .bool false) rfl (by kernel_rfl) (by kernel_rfl) (by kernel_rfl) (by kernel_rfl) (fun _ _ _ h => h) (Or.inl ⟨by rfl, ?_⟩) (unhide HSS _ (unhide HK2)) ?_
            · intro w hSw
              obtain ⟨s0, s1, s2, s3⟩ := hSw
              first
                | rfl
                | (go_simp; done)
            try simp only [Act.put, List.setIfInBounds_toArray, List.set_cons_zero, List.set_cons_succ]
            refine wpAnyT_take (i := 30) (oi := zrsz30) (v := .bool false) rfl (by kernel_rfl) (by kernel_rfl) (by kernel_rfl) (by kernel_rfl) (fun _ _ _ h => h) (Or.inl ⟨by rfl, ?_⟩) (unhide HSS _ (unhide HK2)) ?_
            · intro w hSw
              obtain ⟨s0, s1, s2, s3⟩ := hSw
              first
                | rfl
                | (go_simp; done)
            try simp only [Act.put, List.setIfInBounds_toArray, List.set_cons_zero, List.set_cons_succ]
            refine wpAnyT_take (i := 31) (oi := zrsz31) (v := .bool false) rfl (by kernel_rfl) (by kernel_rfl) (by kernel_rfl) (by kernel_rfl) (fun _ _ _ h => h) (Or.inl ⟨by rfl, ?_⟩) (unhide HSS _ (unhide HK2)) ?_
            · intro w hSw
              obtain ⟨s0, s1, s2, s3⟩ := hSw
              first
                | rfl
                | (go_simp; done)
            try simp only [Act.put, List.setIfInBounds_toArray, List.set_cons_zero, List.set_cons_succ]
            refine wpAnyT_done (by kernel_rfl) ?_ _
            have HB2 := hide ((unhide HBA).trans ((unhide HK2).mono (unhide HBA).size))
            obtain ⟨r0, r1, r2, r3⟩ := unhide HSS _ (unhide HK2)
            clear HSS HFI HBA HK2 r3 r2
            have HB3 := HB2
            clear HB2
            by_cases k2 : p.kind = 2
            · rw [k2] at r0
              have K2 := hide k2
              by_cases hA : 1099511627776 < fv
              · exfalso; omega
              by_cases hB : 1099511627776 < tv + p.n
              · have HNO : Hid (sizeL (l.take (j + 1 + 1)) = none) := hide (by rw [unhide HST]; simp only [sizeStep]; rw [if_pos ⟨unhide HFB, unhide HFO⟩]; simp only [unhide K2, if_true, show ((2 : Int) = 3) = False from by simp, if_false]; rw [if_pos (.inr hB)])
                go_wp2_with fail
                go_ret3
                have hz := sizeL_none (unhide HNO)
                exact ⟨by unfold szVal; rw [hz]; rfl, unhide HB3⟩
              have HNX : Hid (sizeL (l.take (j + 1 + 1)) = some (fv, tv + p.n, p.kind)) := hide (by rw [unhide HST]; simp only [sizeStep]; rw [if_pos ⟨unhide HFB, unhide HFO⟩]; simp only [unhide K2, if_true, show ((2 : Int) = 3) = False from by simp, if_false]; rw [if_neg (by omega)])
              go_wp2_with fail
              exact ⟨⟨j + 1 + 1, by omega, by simp, ⟨_, _, _, rfl, rfl, HNX⟩, HB3⟩, by simp [intOf]; omega⟩
            have k2b : (p.kind == 2) = false := by simp [k2]
            by_cases k3 : p.kind = 3
            · rw [k3] at r0
              have K3 := hide k3
              by_cases hA : 1099511627776 < fv + p.n
              · have HNO : Hid (sizeL (l.take (j + 1 + 1)) = none) := hide (by rw [unhide HST]; simp only [sizeStep]; rw [if_pos ⟨unhide HFB, unhide HFO⟩]; simp only [unhide K3, if_true, show ((3 : Int) = 2) = False from by simp, if_false]; rw [if_pos (.inl hA)])
                go_wp2_with fail
                go_ret3
                have hz := sizeL_none (unhide HNO)
                exact ⟨by unfold szVal; rw [hz]; rfl, unhide HB3⟩
              by_cases hB : 1099511627776 < tv
              · exfalso; omega
              have HNX : Hid (sizeL (l.take (j + 1 + 1)) = some (fv + p.n, tv, p.kind)) := hide (by rw [unhide HST]; simp only [sizeStep]; rw [if_pos ⟨unhide HFB, unhide HFO⟩]; simp only [unhide K3, if_true, show ((3 : Int) = 2) = False from by simp, if_false]; rw [if_neg (by omega)])
              go_wp2_with fail
              exact ⟨⟨j + 1 + 1, by omega, by simp, ⟨_, _, _, rfl, rfl, HNX⟩, HB3⟩, by simp [intOf]; omega⟩
            have k3b : (p.kind == 3) = false := by simp [k3]
            by_cases hA : 1099511627776 < fv + p.n
            · have HNO : Hid (sizeL (l.take (j + 1 + 1)) = none) := hide (by rw [unhide HST]; simp only [sizeStep]; rw [if_pos ⟨unhide HFB, unhide HFO⟩]; simp only [k2, k3, if_false]; rw [if_pos (.inl hA)])
              go_wp2_with fail
              go_ret3
              have hz := sizeL_none (unhide HNO)
              exact ⟨by unfold szVal; rw [hz]; rfl, unhide HB3⟩
            by_cases hB : 1099511627776 < tv + p.n
            · have HNO : Hid (sizeL (l.take (j + 1 + 1)) = none) := hide (by rw [unhide HST]; simp only [sizeStep]; rw [if_pos ⟨unhide HFB, unhide HFO⟩]; simp only [k2, k3, if_false]; rw [if_pos (.inr hB)])
              go_wp2_with fail
              go_ret3
              have hz := sizeL_none (unhide HNO)
              exact ⟨by unfold szVal; rw [hz]; rfl, unhide HB3⟩
            have HNX : Hid (sizeL (l.take (j + 1 + 1)) = some (fv + p.n, tv + p.n, p.kind)) := hide (by rw [unhide HST]; simp only [sizeStep]; rw [if_pos ⟨unhide HFB, unhide HFO⟩]; simp only [k2, k3, if_false]; rw [if_neg (by omega)])
            go_wp2_with fail
            exact ⟨⟨j + 1 + 1, by omega, by simp, ⟨_, _, _, rfl, rfl, HNX⟩, HB3⟩, by simp [intOf]; omega⟩
    · obtain rfl : n = k := by omega
      have kI : ¬ (n : Int) < (n : Int) := by omega
      have HE : Hid (sizeL l = some (fv, tv, lv)) := hide (by have := unhide HSZ; rw [List.take_of_length_le (by rw [unhide HN]; exact Nat.le_refl _)] at this; exact this)
      go_wp2_with fail
      go_ret3
      exact ⟨by unfold szVal; rw [unhide HE]; rfl, unhide HB⟩
end Go.Proofs.YtbnfilhilgjnfaaDoor.Ed
