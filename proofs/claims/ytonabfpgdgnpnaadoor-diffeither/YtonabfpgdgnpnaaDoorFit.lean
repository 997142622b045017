/- Whether a part fits. -/
import Derived.Test.YtonabfpgdgnpnaaDoorATl
import Derived.Shelf.Unicode.ValidAny
namespace Go.Proofs.YtonabfpgdgnpnaaDoor
set_option linter.unusedVariables false
set_option linter.unusedSimpArgs false
open Go.ChangeShapes Go.WideShapes Go.ChangeAt Go.RowKit Go.Joins Go.Deep Go.Shelf

shelf_lay Lays.n196 Nm 196 at Tryd as Tryd.lays196
theorem fValid : Tryd.lays196_ren.f 196 = 58 := by kernel_rfl
theorem gValid : Tryd.lays196_ren.g 3 = Tryd.lays197_ren.g 3 ∧ Tryd.lays196_ren.g 4 = Tryd.lays197_ren.g 4 := ⟨by kernel_rfl, by kernel_rfl⟩
theorem valid_any (s : ByteArray) (w : World) (hT : UT w) (hs : s.size ≤ 9223372036854775807) : Calls Tryd.prog 58 #[.string s] w fun e w' => e = .returned (.bool (Lib.validD s.data.toList)) ∧ Below w.heap.size w w' := by
  have h := Any.utf8_ValidString Tryd.lays196 s w hs (by rw [gValid.1, gValid.2]; exact hT)
  rw [fValid] at h
  exact h
def fitsB (p : Pt) : Bool := decide (1 ≤ p.n) && decide (p.n ≤ 1099511627776) && ((decide (p.kind = 1) || decide (p.kind = 3)) && decide (p.text.size = 0) || decide (p.kind = 2) && (Lib.validD p.text.data.toList && decide ((Lib.runeCount p.text : Int) = p.n)))
theorem toList_empty (s : ByteArray) : s.toList.isEmpty = decide (s.size = 0) := by
  rw [ByteArray.toList_eq, Lib.size_eq]
  cases s.data.toList <;> rfl
set_option maxRecDepth 100000 in
set_option maxHeartbeats 4000000 in
theorem fits_any (p : Pt) (w : World) (hT : UT w) (hs : p.text.size ≤ 281474976710656) : Calls Tryd.prog 37 #[pv p] w fun r w' => r = .returned (.bool (fitsB p)) ∧ Below w.heap.size w w' := by
  obtain ⟨k, n, s⟩ := p
  have hb : Below w.heap.size w (w.alloc (.cells #[.int .i64 k, .int .i64 n, .string s] 39)) := (Below.refl _ _).alloc (Nat.le_refl _) _
  have HT := hide (hT.call hb)
  have HB := hide hb
  have hrow := RowAt.new w 39 [.int .i64 k, .int .i64 n, .string s]
  simp only at hs
  have HSB := hide hs
  clear hT hb hs
  unfold pv fitsB
  simp only
  by_cases h1 : n < 1
  · have hd : decide (1 ≤ n) = false := by simp; omega
    rw [hd]
    simp only [Bool.false_and]
    go_enter Tryd.func37, Tryd.ntmps37
    go_wp2_with fail
    go_ret
    exact ⟨rfl, unhide HB⟩
  have hd1 : decide (1 ≤ n) = true := by simp; omega
  rw [hd1]
  by_cases h2 : 1099511627776 < n
  · have hd : decide (n ≤ 1099511627776) = false := by simp; omega
    rw [hd]
    simp only [Bool.false_and, Bool.and_false]
    go_enter Tryd.func37, Tryd.ntmps37
    go_wp2_with fail
    go_ret
    exact ⟨rfl, unhide HB⟩
  have hd2 : decide (n ≤ 1099511627776) = true := by simp; omega
  rw [hd2]
  simp only [Bool.true_and]
  clear hd1 hd2
  by_cases k1 : k = 1
  · subst k1
    obtain ⟨q, hq⟩ : ∃ q, decide (s.size = 0) = q := ⟨_, rfl⟩
    have he := toList_empty s
    rw [hq] at he
    simp only [decide_true, Bool.true_or, Bool.true_and, show decide ((1 : Int) = 2) = false from rfl, Bool.false_and, Bool.or_false, hq]
    clear hq
    go_enter Tryd.func37, Tryd.ntmps37
    go_wp2_with fail
    go_ret
    exact ⟨by simp [he], unhide HB⟩
  by_cases k3 : k = 3
  · subst k3
    obtain ⟨q, hq⟩ : ∃ q, decide (s.size = 0) = q := ⟨_, rfl⟩
    have he := toList_empty s
    rw [hq] at he
    simp only [decide_true, Bool.or_true, Bool.true_and, show decide ((3 : Int) = 2) = false from rfl, Bool.false_and, Bool.or_false, hq]
    clear hq
    go_enter Tryd.func37, Tryd.ntmps37
    go_wp2_with fail
    go_ret
    exact ⟨by simp [he], unhide HB⟩
  by_cases k2 : k = 2
  · subst k2
    obtain ⟨q, hq⟩ : ∃ q, Lib.validD s.data.toList = q := ⟨_, rfl⟩
    obtain ⟨m, hm⟩ : ∃ m, Lib.runeCount s = m := ⟨_, rfl⟩
    simp only [show decide ((2 : Int) = 1) = false from rfl, show decide ((2 : Int) = 3) = false from rfl, Bool.or_self, Bool.false_and, Bool.false_or, decide_true, Bool.true_and, hq, hm]
    have HRW := hide hrow
    have HS : Hid (∀ W, Below (w.alloc (.cells #[.int .i64 2, .int .i64 n, .string s] 39)).heap.size (w.alloc (.cells #[.int .i64 2, .int .i64 n, .string s] 39)) W → (W.cell? ⟨w.heap.size, 1, none⟩ = some (.int .i64 n) ∧ W.cell? ⟨w.heap.size, 2, none⟩ = some (.string s))) := hide (fun W hW => ⟨((unhide HRW).below hW (unhide HRW).lt).cell 1, ((unhide HRW).below hW (unhide HRW).lt).cell 2⟩)
    have HCN : Hid (∀ W, Calls Tryd.prog 19 #[.string s] W fun e w' => e = .returned (.int .i64 (m : Int)) ∧ Below W.heap.size W w') := hide (fun W => by have h := counts_any s W (by have := unhide HSB; omega); rw [hm] at h; exact h)
    have HV : Hid (∀ W, Below (w.alloc (.cells #[.int .i64 2, .int .i64 n, .string s] 39)).heap.size (w.alloc (.cells #[.int .i64 2, .int .i64 n, .string s] 39)) W → Calls Tryd.prog 58 #[.string s] W fun e w' => e = .returned (.bool q) ∧ Below W.heap.size W w') := hide (fun W hW => by have h := valid_any s W ((unhide HT).call hW) (by have := unhide HSB; omega); rw [hq] at h; exact h)
    clear hrow hq hm
    cases q with
    | false =>
      simp only [Bool.false_and]
      go_enter Tryd.func37, Tryd.ntmps37
      go_wp2_with fail
      obtain ⟨wA, hA⟩ : ∃ wA, (w.alloc (.cells #[.int .i64 2, .int .i64 n, .string s] 39)) = wA := ⟨_, rfl⟩
      rw [hA] at HS HV HB ⊢
      clear hA HRW HT
      have k0 : Below wA.heap.size wA wA.drew := (Below.refl _ _).drew
      refine wp_region_T (S := fun W => (W.cell? ⟨w.heap.size, 1, none⟩ = some (.int .i64 n) ∧ W.cell? ⟨w.heap.size, 2, none⟩ = some (.string s))) (fun i => decide (i < 12)) (by kernel_rfl) (unhide HS _ k0) (fun hHeld => ?_)
      refine wpAnyT_take (i := 0) (oi := { dst := some 21, op := Op.fieldAddr 39 (Operand.tmp 1) 2, type := 0, pos := "edit.go:49", after := #[], guard := none }) (v := .pointer (some ⟨w.heap.size, 2, none⟩)) rfl (by kernel_rfl) (by kernel_rfl) (by kernel_rfl) (by kernel_rfl) (fun _ _ _ h => h) (Or.inl ⟨by rfl, ?_⟩) hHeld ?_
      · intro w hSw
        obtain ⟨h3, h4⟩ := hSw
        first
          | rfl
          | (go_simp; done)
      try simp only [Act.put, List.setIfInBounds_toArray, List.set_cons_zero, List.set_cons_succ]
      refine wpAnyT_take (i := 1) (oi := { dst := some 22, op := Op.load 9 (Operand.tmp 21), type := 9, pos := "edit.go:49", after := #[{ on := 0, ground := Ground.data }], guard := none }) (v := .string s) rfl (by kernel_rfl) (by kernel_rfl) (by kernel_rfl) (by kernel_rfl) (fun _ _ _ h => h) (Or.inl ⟨by rfl, ?_⟩) hHeld ?_
      · intro w hSw
        obtain ⟨h3, h4⟩ := hSw
        first
          | rfl
          | (go_simp; done)
      try simp only [Act.put, List.setIfInBounds_toArray, List.set_cons_zero, List.set_cons_succ]
      refine wpAnyT_one (i := 2) (o := { dst := some 23, op := Op.call { callee := Callee.value (Operand.func 58), args := #[Operand.tmp 22], argTypes := #[9] }, type := 4, pos := "edit.go:49", after := #[{ on := 1, ground := Ground.data }], guard := none }) (by kernel_rfl) rfl (fun K hK => ?_)
      go_simp
      refine Calls.mono (unhide HV wA.drew k0) ?_
      rintro r w2 ⟨rfl, b2⟩
      have k2 : Below wA.heap.size wA w2 := k0.trans (b2.mono k0.size)
      have HK2 := hide k2
      go_wp2_with fail
      refine hK.out _ _ (fun _ => unhide HS _ (unhide HK2)) ?_
      clear hK K k2 b2 k0
      try simp only [Act.put, List.setIfInBounds_toArray, List.set_cons_zero, List.set_cons_succ]
      refine wpAnyT_take (i := 3) (oi := { dst := some 24, op := Op.move (Operand.tmp 23), type := 4, pos := "edit.go:49", after := #[{ on := 2, ground := Ground.data }, { on := 2, ground := Ground.chain }], guard := none }) (v := .bool false) rfl (by kernel_rfl) (by kernel_rfl) (by kernel_rfl) (by kernel_rfl) (fun _ _ _ h => h) (Or.inl ⟨by rfl, ?_⟩) (unhide HS _ (unhide HK2)) ?_
      · intro w hSw
        obtain ⟨h3, h4⟩ := hSw
        first
          | rfl
          | (go_simp; done)
      try simp only [Act.put, List.setIfInBounds_toArray, List.set_cons_zero, List.set_cons_succ]
      refine wpAnyT_take (i := 4) (oi := { dst := some 25, op := Op.fieldAddr 39 (Operand.tmp 1) 2, type := 0, pos := "edit.go:49", after := #[{ on := 3, ground := Ground.guard }], guard := some (3, true) }) (v := undef) rfl (by kernel_rfl) (by kernel_rfl) (by kernel_rfl) (by kernel_rfl) (fun _ _ _ h => h) (Or.inr ⟨by rfl, rfl⟩) (unhide HS _ (unhide HK2)) ?_
      try simp only [Act.put, List.setIfInBounds_toArray, List.set_cons_zero, List.set_cons_succ]
      refine wpAnyT_take (i := 5) (oi := { dst := some 26, op := Op.load 9 (Operand.tmp 25), type := 9, pos := "edit.go:49", after := #[{ on := 4, ground := Ground.data }, { on := 3, ground := Ground.guard }], guard := some (3, true) }) (v := undef) rfl (by kernel_rfl) (by kernel_rfl) (by kernel_rfl) (by kernel_rfl) (fun _ _ _ h => h) (Or.inr ⟨by rfl, rfl⟩) (unhide HS _ (unhide HK2)) ?_
      try simp only [Act.put, List.setIfInBounds_toArray, List.set_cons_zero, List.set_cons_succ]
      refine wpAnyT_take (i := 6) (oi := { dst := some 27, op := Op.call { callee := Callee.value (Operand.func 19), args := #[Operand.tmp 26], argTypes := #[9] }, type := 3, pos := "edit.go:49", after := #[{ on := 5, ground := Ground.data }, { on := 3, ground := Ground.chain }, { on := 3, ground := Ground.guard }], guard := some (3, true) }) (v := undef) rfl (by kernel_rfl) (by kernel_rfl) (by kernel_rfl) (by kernel_rfl) (fun _ _ _ h => h) (Or.inr ⟨by rfl, rfl⟩) (unhide HS _ (unhide HK2)) ?_
      try simp only [Act.put, List.setIfInBounds_toArray, List.set_cons_zero, List.set_cons_succ]
      refine wpAnyT_take (i := 7) (oi := { dst := some 28, op := Op.fieldAddr 39 (Operand.tmp 1) 1, type := 0, pos := "edit.go:49", after := #[{ on := 3, ground := Ground.guard }], guard := some (3, true) }) (v := undef) rfl (by kernel_rfl) (by kernel_rfl) (by kernel_rfl) (by kernel_rfl) (fun _ _ _ h => h) (Or.inr ⟨by rfl, rfl⟩) (unhide HS _ (unhide HK2)) ?_
      try simp only [Act.put, List.setIfInBounds_toArray, List.set_cons_zero, List.set_cons_succ]
      refine wpAnyT_take (i := 8) (oi := { dst := some 29, op := Op.load 3 (Operand.tmp 28), type := 3, pos := "edit.go:49", after := #[{ on := 7, ground := Ground.data }, { on := 3, ground := Ground.guard }], guard := some (3, true) }) (v := undef) rfl (by kernel_rfl) (by kernel_rfl) (by kernel_rfl) (by kernel_rfl) (fun _ _ _ h => h) (Or.inr ⟨by rfl, rfl⟩) (unhide HS _ (unhide HK2)) ?_
      try simp only [Act.put, List.setIfInBounds_toArray, List.set_cons_zero, List.set_cons_succ]
      refine wpAnyT_take (i := 9) (oi := { dst := some 30, op := Op.binOp BinOp.eql 3 (Operand.tmp 27) (Operand.tmp 29) 3, type := 4, pos := "edit.go:49", after := #[{ on := 6, ground := Ground.data }, { on := 8, ground := Ground.data }, { on := 3, ground := Ground.guard }], guard := some (3, true) }) (v := undef) rfl (by kernel_rfl) (by kernel_rfl) (by kernel_rfl) (by kernel_rfl) (fun _ _ _ h => h) (Or.inr ⟨by rfl, rfl⟩) (unhide HS _ (unhide HK2)) ?_
      try simp only [Act.put, List.setIfInBounds_toArray, List.set_cons_zero, List.set_cons_succ]
      refine wpAnyT_take (i := 10) (oi := { dst := some 31, op := Op.pick (Operand.tmp 24) (Operand.tmp 30) (Operand.const (Value.bool false)), type := 4, pos := "edit.go:49", after := #[{ on := 3, ground := Ground.data }, { on := 9, ground := Ground.data }], guard := none }) (v := .bool false) rfl (by kernel_rfl) (by kernel_rfl) (by kernel_rfl) (by kernel_rfl) (fun _ _ _ h => h) (Or.inl ⟨by rfl, ?_⟩) (unhide HS _ (unhide HK2)) ?_
      · intro w hSw
        obtain ⟨h3, h4⟩ := hSw
        first
          | rfl
          | (go_simp; done)
      try simp only [Act.put, List.setIfInBounds_toArray, List.set_cons_zero, List.set_cons_succ]
      refine wpAnyT_take (i := 11) (oi := { dst := some 2, op := Op.assign (Operand.tmp 31), type := 4, pos := "edit.go:49", after := #[{ on := 10, ground := Ground.data }, { on := 6, ground := Ground.chain }, { on := 0, ground := Ground.phase }, { on := 1, ground := Ground.phase }, { on := 2, ground := Ground.phase }, { on := 3, ground := Ground.phase }, { on := 4, ground := Ground.phase }, { on := 5, ground := Ground.phase }, { on := 6, ground := Ground.phase }, { on := 7, ground := Ground.phase }, { on := 8, ground := Ground.phase }, { on := 9, ground := Ground.phase }, { on := 10, ground := Ground.phase }], guard := none }) (v := .bool false) rfl (by kernel_rfl) (by kernel_rfl) (by kernel_rfl) (by kernel_rfl) (fun _ _ _ h => h) (Or.inl ⟨by rfl, ?_⟩) (unhide HS _ (unhide HK2)) ?_
      · intro w hSw
        obtain ⟨h3, h4⟩ := hSw
        first
          | rfl
          | (go_simp; done)
      try simp only [Act.put, List.setIfInBounds_toArray, List.set_cons_zero, List.set_cons_succ]
      refine wpAnyT_done (by kernel_rfl) ?_ _
      go_wp2_with fail
      go_ret
      exact ⟨rfl, (unhide HB).trans ((unhide HK2).mono (unhide HB).size)⟩
    | true =>
      simp only [Bool.true_and]
      go_enter Tryd.func37, Tryd.ntmps37
      go_wp2_with fail
      obtain ⟨wA, hA⟩ : ∃ wA, (w.alloc (.cells #[.int .i64 2, .int .i64 n, .string s] 39)) = wA := ⟨_, rfl⟩
      rw [hA] at HS HV HB ⊢
      clear hA HRW HT
      have k0 : Below wA.heap.size wA wA.drew := (Below.refl _ _).drew
      go_region_held3 (fun W => (W.cell? ⟨w.heap.size, 1, none⟩ = some (.int .i64 n) ∧ W.cell? ⟨w.heap.size, 2, none⟩ = some (.string s)))
        (first | exact unhide HS _ k0 | exact unhide HS _ k3 | exact unhide HS _ k2)
        (first | (go_at_call 58; refine Calls.mono (unhide HV wA.drew k0) ?_; rintro e w2 ⟨rfl, b2⟩; have k2 : Below wA.heap.size wA w2 := k0.trans (b2.mono k0.size)) | (go_at_call 19; refine Calls.mono (unhide HCN w2) ?_; rintro e w3 ⟨rfl, b3⟩; have k3 : Below wA.heap.size wA w3 := k2.trans (b3.mono k2.size)))
      have HB3 := hide ((unhide HB).trans (k3.mono (unhide HB).size))
      clear k0 k2 k3 b2 b3 HS HV HCN
      go_wp2_with fail
      go_ret
      refine ⟨?_, unhide HB3⟩
      show Ending.returned (Value.bool ((m : Int) == n)) = _
      congr 2
  · have d1 : decide (k = 1) = false := by simp [k1]
    have d2 : decide (k = 2) = false := by simp [k2]
    have d3 : decide (k = 3) = false := by simp [k3]
    have e1 : (k == 1) = false := by simp [k1]
    have e2 : (k == 2) = false := by simp [k2]
    have e3 : (k == 3) = false := by simp [k3]
    rw [d1, d2, d3]
    simp only [Bool.or_self, Bool.false_and]
    clear hrow
    go_enter Tryd.func37, Tryd.ntmps37
    go_wp2_with fail
    go_ret
    exact ⟨rfl, unhide HB⟩
end Go.Proofs.YtonabfpgdgnpnaaDoor
