/- The document's Fits. -/
import Derived.Test.YtonabfpgdgnpnaaDoorRun
import Derived.Lib.ConvBytes
namespace Go.Proofs.YtonabfpgdgnpnaaDoor
set_option linter.unusedVariables false
set_option linter.unusedSimpArgs false
open Go.ChangeShapes Go.WideShapes Go.ChangeAt Go.RowKit Go.Joins Go.Deep Go.Shelf

theorem bw_below (w : World) (s : ByteArray) : Below w.heap.size w (Lib.bytesWorld w 5 s) :=
  ⟨rfl, rfl, rfl, by rw [Lib.bytesWorld_size]; omega, fun k hk => Lib.bytesWorld_at_old w 5 s k hk⟩
theorem bw_bys (w : World) (s : ByteArray) : BysAt (Lib.bytesWorld w 5 s) w.heap.size s.data.toList := fun j b hj => by
  have hlt : j < s.data.toList.length := by
    rcases Nat.lt_or_ge j s.data.toList.length with h | h
    · exact h
    · rw [List.getElem?_eq_none h] at hj; cases hj
  rw [Lib.bytesWorld_cell w 5 s j (by rw [Lib.size_eq]; exact hlt), List.getD_eq_getElem?_getD, hj]
  rfl
theorem rune_fits (s : ByteArray) (n : Int) (hn : 1 ≤ n) : (runeV s.data.toList == n) = (Lib.validD s.data.toList && decide ((Lib.runeCount s : Int) = n)) := by
  unfold runeV
  cases h : Lib.validD s.data.toList with
  | false =>
    rw [if_neg (by simp)]
    simp; omega
  | true =>
    rw [if_pos rfl]
    simp only [Array.toArray_toList, Bool.true_and]
    rfl
set_option maxRecDepth 100000 in
set_option maxHeartbeats 4000000 in
theorem rfits_any (p : Pt) (w : World) (hs : p.text.size ≤ 281474976710656) : Calls Tryd.prog 54 #[pv p] w fun r w' => r = .returned (.bool (fitsB p)) ∧ Below w.heap.size w w' := by
  obtain ⟨k, n, s⟩ := p
  have hb : Below w.heap.size w (w.alloc (.cells #[.int .i64 k, .int .i64 n, .string s] 39)) := (Below.refl _ _).alloc (Nat.le_refl _) _
  have HB := hide hb
  have hrow := RowAt.new w 39 [.int .i64 k, .int .i64 n, .string s]
  simp only at hs
  have HSB := hide hs
  clear hb hs
  unfold pv fitsB
  simp only
  by_cases h1 : n < 1
  · have hd : decide (1 ≤ n) = false := by simp; omega
    rw [hd]
    simp only [Bool.false_and]
    go_enter Tryd.func54, Tryd.ntmps54
    go_wp2_with fail
    go_ret
    exact ⟨rfl, unhide HB⟩
  have hd1 : decide (1 ≤ n) = true := by simp; omega
  rw [hd1]
  by_cases h2 : 1099511627776 < n
  · have hd : decide (n ≤ 1099511627776) = false := by simp; omega
    rw [hd]
    simp only [Bool.false_and, Bool.and_false]
    go_enter Tryd.func54, Tryd.ntmps54
    go_wp2_with fail
    go_ret
    exact ⟨rfl, unhide HB⟩
  have hd2 : decide (n ≤ 1099511627776) = true := by simp; omega
  rw [hd2]
  simp only [Bool.true_and]
  clear hd1 hd2
  by_cases k1 : k = 1
  · subst k1
    obtain ⟨q, hq⟩ : ∃ q, decide (s.size = 0) = q := ⟨_, rfl⟩
    have he := toList_empty s
    rw [hq] at he
    simp only [decide_true, Bool.true_or, Bool.true_and, show decide ((1 : Int) = 2) = false from rfl, Bool.false_and, Bool.or_false, hq]
    clear hq
    go_enter Tryd.func54, Tryd.ntmps54
    go_wp2_with fail
    go_ret
    exact ⟨by simp [he], unhide HB⟩
  by_cases k3 : k = 3
  · subst k3
    obtain ⟨q, hq⟩ : ∃ q, decide (s.size = 0) = q := ⟨_, rfl⟩
    have he := toList_empty s
    rw [hq] at he
    simp only [decide_true, Bool.or_true, Bool.true_and, show decide ((3 : Int) = 2) = false from rfl, Bool.false_and, Bool.or_false, hq]
    clear hq
    go_enter Tryd.func54, Tryd.ntmps54
    go_wp2_with fail
    go_ret
    exact ⟨by simp [he], unhide HB⟩
  by_cases k2 : k = 2
  · subst k2
    simp only [show decide ((2 : Int) = 1) = false from rfl, show decide ((2 : Int) = 3) = false from rfl, Bool.or_self, Bool.false_and, Bool.false_or, decide_true, Bool.true_and]
    rw [← rune_fits s n (by omega)]
    have HRW := hide hrow
    have HS : Hid (∀ W, Below (w.alloc (.cells #[.int .i64 2, .int .i64 n, .string s] 39)).heap.size (w.alloc (.cells #[.int .i64 2, .int .i64 n, .string s] 39)) W → (W.cell? ⟨w.heap.size, 1, none⟩ = some (.int .i64 n) ∧ W.cell? ⟨w.heap.size, 2, none⟩ = some (.string s))) := hide (fun W hW => ⟨((unhide HRW).below hW (unhide HRW).lt).cell 1, ((unhide HRW).below hW (unhide HRW).lt).cell 2⟩)
    clear hrow
    go_enter Tryd.func54, Tryd.ntmps54
    go_wp2_with fail
    obtain ⟨wA, hA⟩ : ∃ wA, (w.alloc (.cells #[.int .i64 2, .int .i64 n, .string s] 39)) = wA := ⟨_, rfl⟩
    rw [hA] at HS HB ⊢
    clear hA HRW
    have k0 : Below wA.heap.size wA wA.drew := (Below.refl _ _).drew
    refine wp_region_T (S := fun W => (W.cell? ⟨w.heap.size, 1, none⟩ = some (.int .i64 n) ∧ W.cell? ⟨w.heap.size, 2, none⟩ = some (.string s))) (fun i => decide (i < 8)) (by kernel_rfl) (unhide HS _ k0) (fun hHeld => ?_)
    refine wpAnyT_take (i := 0) (oi := { dst := some 14, op := Op.fieldAddr 39 (Operand.tmp 1) 2, type := 0, pos := "ref.go:22", after := #[], guard := none }) (v := .pointer (some ⟨w.heap.size, 2, none⟩)) rfl (by kernel_rfl) (by kernel_rfl) (by kernel_rfl) (by kernel_rfl) (fun _ _ _ h => h) (Or.inl ⟨by rfl, ?_⟩) hHeld ?_
    · intro w hSw
      obtain ⟨h3, h4⟩ := hSw
      first
        | rfl
        | (go_simp; done)
    try simp only [Act.put, List.setIfInBounds_toArray, List.set_cons_zero, List.set_cons_succ]
    refine wpAnyT_take (i := 1) (oi := { dst := some 15, op := Op.load 9 (Operand.tmp 14), type := 9, pos := "ref.go:22", after := #[{ on := 0, ground := Ground.data }], guard := none }) (v := .string s) rfl (by kernel_rfl) (by kernel_rfl) (by kernel_rfl) (by kernel_rfl) (fun _ _ _ h => h) (Or.inl ⟨by rfl, ?_⟩) hHeld ?_
    · intro w hSw
      obtain ⟨h3, h4⟩ := hSw
      first
        | rfl
        | (go_simp; done)
    try simp only [Act.put, List.setIfInBounds_toArray, List.set_cons_zero, List.set_cons_succ]
    refine wpAnyT_take (i := 4) (oi := { dst := some 18, op := Op.fieldAddr 39 (Operand.tmp 1) 1, type := 0, pos := "ref.go:22", after := #[], guard := none }) (v := .pointer (some ⟨w.heap.size, 1, none⟩)) rfl (by kernel_rfl) (by kernel_rfl) (by kernel_rfl) (by kernel_rfl) (fun _ _ _ h => h) (Or.inl ⟨by rfl, ?_⟩) hHeld ?_
    · intro w hSw
      obtain ⟨h3, h4⟩ := hSw
      first
        | rfl
        | (go_simp; done)
    try simp only [Act.put, List.setIfInBounds_toArray, List.set_cons_zero, List.set_cons_succ]
    refine wpAnyT_take (i := 5) (oi := { dst := some 19, op := Op.load 3 (Operand.tmp 18), type := 3, pos := "ref.go:22", after := #[{ on := 4, ground := Ground.data }], guard := none }) (v := .int .i64 n) rfl (by kernel_rfl) (by kernel_rfl) (by kernel_rfl) (by kernel_rfl) (fun _ _ _ h => h) (Or.inl ⟨by rfl, ?_⟩) hHeld ?_
    · intro w hSw
      obtain ⟨h3, h4⟩ := hSw
      first
        | rfl
        | (go_simp; done)
    try simp only [Act.put, List.setIfInBounds_toArray, List.set_cons_zero, List.set_cons_succ]
    refine wpAnyT_one (i := 2) (o := { dst := some 16, op := Op.convert 9 69 (Operand.tmp 15), type := 69, pos := "ref.go:22", after := #[{ on := 1, ground := Ground.data }], guard := none }) (by kernel_rfl) rfl (fun K hK => ?_)
    have hcv := Lib.run_convert_string_bytes (P := Tryd.prog) wA.drew 9 69 5 s Tryd.underlying9 Tryd.underlying69 Tryd.underlying5
    have HBY := hide (bw_bys wA.drew s)
    have HK1 := hide (k0.trans ((bw_below wA.drew s).mono k0.size))
    have HCA := hide (And.intro (grownCap_ge wA.drew s.size 0 5) (grownCap_le_maxLen wA.drew s.size 0 5 (by have := unhide HSB; unfold maxLen; omega)))
    obtain ⟨cap, hcap⟩ : ∃ z, grownCap wA.drew s.size 0 5 = z := ⟨_, rfl⟩
    obtain ⟨W1, hW1⟩ : ∃ z, Lib.bytesWorld wA.drew 5 s = z := ⟨_, rfl⟩
    obtain ⟨g, hg⟩ : ∃ z, wA.drew.heap.size = z := ⟨_, rfl⟩
    rw [hcap] at hcv HCA
    rw [hW1] at hcv HBY HK1
    rw [hg] at hcv HBY
    clear hcap hW1 hg
    go_wp2_with fail
    refine hK.out _ _ (fun _ => unhide HS _ (unhide HK1)) ?_
    clear hK K
    clear hcv
    try simp only [Act.put, List.setIfInBounds_toArray, List.set_cons_zero, List.set_cons_succ]
    refine wpAnyT_one (i := 3) (o := { dst := some 17, op := Op.call { callee := Callee.value (Operand.func 48), args := #[Operand.tmp 16], argTypes := #[69] }, type := 3, pos := "ref.go:22", after := #[{ on := 2, ground := Ground.data }], guard := none }) (by kernel_rfl) rfl (fun K hK => ?_)
    go_simp
    refine Calls.mono (show Calls Tryd.prog 48 #[.slice (some ⟨g, 0, none⟩) s.size cap] W1 _ from by have := runes_any g cap s.data.toList W1 (unhide HBY) (by rw [← Lib.size_eq]; exact (unhide HCA).1) (unhide HCA).2 (by rw [← Lib.size_eq]; exact unhide HSB) (some ⟨g, 0, none⟩) (fun _ => rfl); rw [← Lib.size_eq] at this; exact this) ?_
    rintro r w2 ⟨rfl, rfl⟩
    obtain ⟨mz, hmz⟩ : ∃ z, runeV s.data.toList = z := ⟨_, rfl⟩
    have HMZ := hide hmz
    rw [hmz]
    clear hmz
    go_wp2_with fail
    refine hK.out _ _ (fun _ => unhide HS _ (unhide HK1)) ?_
    clear hK K
    try simp only [Act.put, List.setIfInBounds_toArray, List.set_cons_zero, List.set_cons_succ]
    refine wpAnyT_take (i := 6) (oi := { dst := some 20, op := Op.binOp BinOp.eql 3 (Operand.tmp 17) (Operand.tmp 19) 3, type := 4, pos := "ref.go:22", after := #[{ on := 3, ground := Ground.data }, { on := 5, ground := Ground.data }], guard := none }) (v := .bool (mz == n)) rfl (by kernel_rfl) (by kernel_rfl) (by kernel_rfl) (by kernel_rfl) (fun _ _ _ h => h) (Or.inl ⟨by rfl, ?_⟩) (unhide HS _ (unhide HK1)) ?_
    · intro w hSw
      obtain ⟨h3, h4⟩ := hSw
      first
        | rfl
        | (go_simp; done)
    try simp only [Act.put, List.setIfInBounds_toArray, List.set_cons_zero, List.set_cons_succ]
    refine wpAnyT_take (i := 7) (oi := { dst := some 2, op := Op.assign (Operand.tmp 20), type := 4, pos := "ref.go:22", after := #[{ on := 6, ground := Ground.data }, { on := 3, ground := Ground.chain }, { on := 0, ground := Ground.phase }, { on := 1, ground := Ground.phase }, { on := 2, ground := Ground.phase }, { on := 3, ground := Ground.phase }, { on := 4, ground := Ground.phase }, { on := 5, ground := Ground.phase }, { on := 6, ground := Ground.phase }], guard := none }) (v := .bool (mz == n)) rfl (by kernel_rfl) (by kernel_rfl) (by kernel_rfl) (by kernel_rfl) (fun _ _ _ h => h) (Or.inl ⟨by rfl, ?_⟩) (unhide HS _ (unhide HK1)) ?_
    · intro w hSw
      obtain ⟨h3, h4⟩ := hSw
      first
        | rfl
        | (go_simp; done)
    try simp only [Act.put, List.setIfInBounds_toArray, List.set_cons_zero, List.set_cons_succ]
    refine wpAnyT_done (by kernel_rfl) ?_ _
    go_wp2_with fail
    go_ret
    exact ⟨by rw [unhide HMZ] <;> rfl, (unhide HB).trans ((unhide HK1).mono (unhide HB).size)⟩
  · have d1 : decide (k = 1) = false := by simp [k1]
    have d2 : decide (k = 2) = false := by simp [k2]
    have d3 : decide (k = 3) = false := by simp [k3]
    have e1 : (k == 1) = false := by simp [k1]
    have e2 : (k == 2) = false := by simp [k2]
    have e3 : (k == 3) = false := by simp [k3]
    rw [d1, d2, d3]
    simp only [Bool.or_self, Bool.false_and]
    clear hrow
    go_enter Tryd.func54, Tryd.ntmps54
    go_wp2_with fail
    go_ret
    exact ⟨rfl, unhide HB⟩
end Go.Proofs.YtonabfpgdgnpnaaDoor
