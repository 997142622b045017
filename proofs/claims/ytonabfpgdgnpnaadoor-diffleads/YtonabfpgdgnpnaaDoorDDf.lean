/- Diff, Kept. -/
import Derived.Test.YtonabfpgdgnpnaaDoorDRd
namespace Go.Proofs.YtonabfpgdgnpnaaDoor
set_option linter.unusedVariables false
set_option linter.unusedSimpArgs false
open Go.ChangeShapes Go.WideShapes Go.ChangeAt Go.RowKit Go.Joins Go.Deep

theorem two_get {α : Type} {l : List α} (h : l.length = 2) : ∃ a b, l = [a, b] := by
  match l, h with
  | [a, b], _ => exact ⟨a, b, rfl⟩
theorem three_get {α : Type} {l : List α} (h : l.length = 3) : ∃ a b c, l = [a, b, c] := by
  match l, h with
  | [a, b, c], _ => exact ⟨a, b, c, rfl⟩
theorem LeadR.shape {x y : List CP} {w w' : World} {r : Ending} (h : LeadR x y w r w') : ∃ a l c, r = .returned (.slice a l.length c) ∧ OwnP w' w.heap.size (.slice a l.length c) l ∧ NfG 0 l ∧ atomsL l = At.can (leadA x y) ∧ Below w.heap.size w w' := by
  obtain ⟨v, l, h1, h2, h3, h4, h5⟩ := h
  obtain ⟨a, c, rfl, _, _⟩ := own_sl3 h2
  exact ⟨a, l, c, h1, h2, h3, h4, h5⟩
theorem TabR.shape {x y : List CP} {va vb : Value} {w w' : World} {r : Ending} (h : TabR x y va vb w r w') : ∃ Ba Bb vm M, r = .returned (.agg #[va, vb, vm]) ∧ Tb w' Ba Bb w.heap.size va vb vm x y M ∧ TF x y M ∧ Below w.heap.size w w' := h
def DiffR (a b : ByteArray) (w : World) (r : Ending) (w' : World) : Prop := (firstE [a, b] ≠ 0 ∧ r = .returned (.tuple #[.slice none 0 0, .int .i64 (firstE [a, b])]) ∨ firstE [a, b] = 0 ∧ ∃ x y v l, Tx a x ∧ Tx b y ∧ x.length ≤ 1024 ∧ y.length ≤ 1024 ∧ r = .returned (.tuple #[v, .int .i64 0]) ∧ OwnP w' w.heap.size v l ∧ NfG 0 l ∧ atomsL l = At.can (leadA x y)) ∧ Below w.heap.size w w'
def KeptR (a b : ByteArray) (w : World) (r : Ending) (w' : World) : Prop := (firstE [a, b] ≠ 0 ∧ r = .returned (.tuple #[.int .i64 0, .int .i64 (firstE [a, b])]) ∨ firstE [a, b] = 0 ∧ ∃ x y, Tx a x ∧ Tx b y ∧ x.length ≤ 1024 ∧ y.length ≤ 1024 ∧ r = .returned (.tuple #[.int .i64 (lcs x y : Int), .int .i64 0])) ∧ Below w.heap.size w w'
theorem first_i64 (l : List ByteArray) : firstE l = 0 ∨ firstE l = 4 ∨ firstE l = 21 := by
  induction l with
  | nil => exact .inl rfl
  | cons s l ih =>
    rw [firstE]
    by_cases h : chkE s = 0
    · rw [if_pos h]
      exact ih
    · rw [if_neg h]
      unfold chkE at h ⊢
      split
      · simp
      · split
        · simp
        · rename_i h1 h2
          rw [if_neg h1, if_neg h2] at h
          exact absurd rfl h
set_option maxRecDepth 100000 in
set_option maxHeartbeats 4000000 in
theorem diff_any (a b : ByteArray) (w : World) (hT : UT w) (hsa : a.size ≤ 1099511627776) (hsb : b.size ≤ 1099511627776) : Calls Tryd.prog 13 #[.string a, .string b] w fun r w' => DiffR a b w r w' := by
  have HU : Hid (∀ W, Below w.heap.size w W → UT W) := hide (fun W h => hT.call h)
  have bP : Below w.heap.size w (w.alloc (.cells #[.string a, .string b] 9)) := (Below.refl _ _).alloc (Nat.le_refl _) _
  have KR := hide (read_any w.heap.size (.slice (some ⟨w.heap.size, 0, none⟩) 2 2) [a, b] (w.alloc (.cells #[.string a, .string b] 9)) (hT.call bP) (own_row (RowAt.new w 9 [.string a, .string b]) (Nat.le_refl _) (by show 2 ≤ maxLen; unfold maxLen; omega)) (by simp) (by simp only [List.mem_cons, List.not_mem_nil, or_false]; rintro s (rfl | rfl) <;> assumption))
  have B1 := hide bP
  obtain ⟨w1, hw1⟩ : ∃ z, w.alloc (.cells #[.string a, .string b] 9) = z := ⟨_, rfl⟩
  have HW1 := hide hw1
  rw [hw1] at KR B1
  clear hT bP hw1
  go_enter Tryd.func13, Tryd.ntmps13
  go_wp2_with fail
  try rw [unhide HW1]
  clear HW1
  refine Calls.mono (unhide KR) ?_
  rintro r w2 ⟨h2, b2⟩
  have B2 := hide ((unhide B1).trans (b2.mono (unhide B1).size))
  have hBs := (unhide B1).size
  clear b2 KR
  rcases h2 with ⟨hf, rfl⟩ | ⟨hf, v, vs, X, rfl, hrd, htx, hxl⟩
  · obtain ⟨e, he⟩ : ∃ z, firstE [a, b] = z := ⟨_, rfl⟩
    have HE := hide he
    have he0 : (e != 0) = true := by rw [← he]; simp [hf]
    have HF := hide hf
    rw [he]
    clear hf he
    go_wp2_with fail
    go_ret2
    exact ⟨.inl ⟨unhide HF, by rw [unhide HE]; rfl⟩, unhide B2⟩
  · obtain ⟨x, y, rfl⟩ := two_get hxl
    have hvl := hrd.len
    obtain ⟨u0, u1, rfl⟩ := two_get hvl
    obtain ⟨ht0, hl0⟩ := htx 0 _ _ rfl rfl
    have ho0 := hrd.each 0 _ _ rfl rfl
    obtain ⟨a0, c0, rfl, _, _⟩ := own_sl ho0
    obtain ⟨ht1, hl1⟩ := htx 1 _ _ rfl rfl
    have ho1 := hrd.each 1 _ _ rfl rfl
    obtain ⟨a1, c1, rfl, _, _⟩ := own_sl ho1
    obtain ⟨gl, cl, rfl, hc0, -, hlc, hlm⟩ := own_rd hrd.own (i := 0) rfl
    have hc1 : w2.cell? ⟨gl, 1, none⟩ = some (.slice a1 y.length c1) := row_cell (n := 2) (by exact hrd.own) rfl
    have KL := hide (fun W (hb : Below w2.heap.size w2 W) => lead_any (unhide HU W ((unhide B2).trans (hb.mono (unhide B2).size))) (own_call ho0 hb) (own_call ho1 hb) ht0.cps ht1.cps hl0 hl1)
    have HT := hide (And.intro hf (And.intro ht0 (And.intro ht1 (And.intro hl0 hl1))))
    have HS : Hid (∀ W, Below w2.heap.size w2 W → W.cell? ⟨gl, 0, none⟩ = some (.slice a0 x.length c0) ∧ W.cell? ⟨gl, 1, none⟩ = some (.slice a1 y.length c1)) := hide (fun W hW => ⟨kept hW hc0, kept hW hc1⟩)
    have k0 : Below w2.heap.size w2 w2.drew := (Below.refl _ _).drew
    obtain ⟨n, hn⟩ : ∃ z, x.length = z := ⟨_, rfl⟩
    obtain ⟨m, hm⟩ : ∃ z, y.length = z := ⟨_, rfl⟩
    rw [hn, hm] at KL HS
    rw [show ([x, y] : List (List CP)).length = 2 from rfl] at *
    clear hf hrd htx hxl hvl ht0 ht1 hl0 hl1 ho0 ho1 hc0 hc1 hn hm
    go_wp2_with fail
    go_region_held3 (fun W => W.cell? ⟨gl, 0, none⟩ = some (.slice a0 n c0) ∧ W.cell? ⟨gl, 1, none⟩ = some (.slice a1 m c1))
      (first | exact unhide HS _ k0 | exact unhide HS _ k1)
      (first | (go_at_call 30; with_reducible refine Calls.mono (unhide KL _ k0) ?_; rintro e w3 h3; obtain ⟨a3, l3, c3, rfl, o3, nf3, at3, b3⟩ := LeadR.shape h3; have k1 : Below w2.heap.size w2 w3 := k0.trans (b3.mono k0.size)))
    have HO := hide (own_base o3 (show w.heap.size ≤ w2.drew.heap.size from (unhide B2).size))
    have B3 := hide ((unhide B2).trans (k1.mono (unhide B2).size))
    have HA := hide (And.intro nf3 at3)
    clear k0 k1 b3 o3 nf3 at3 HS KL
    go_wp2_with fail
    go_ret2
    exact ⟨.inr ⟨(unhide HT).1, x, y, _, _, (unhide HT).2.1, (unhide HT).2.2.1, (unhide HT).2.2.2.1, (unhide HT).2.2.2.2, rfl, unhide HO, (unhide HA).1, (unhide HA).2⟩, unhide B3⟩
set_option maxRecDepth 100000 in
set_option maxHeartbeats 4000000 in
theorem kept2_any (a b : ByteArray) (w : World) (hT : UT w) (hsa : a.size ≤ 1099511627776) (hsb : b.size ≤ 1099511627776) : Calls Tryd.prog 16 #[.string a, .string b] w fun r w' => KeptR a b w r w' := by
  have HU : Hid (∀ W, Below w.heap.size w W → UT W) := hide (fun W h => hT.call h)
  have bP : Below w.heap.size w (w.alloc (.cells #[.string a, .string b] 9)) := (Below.refl _ _).alloc (Nat.le_refl _) _
  have KR := hide (read_any w.heap.size (.slice (some ⟨w.heap.size, 0, none⟩) 2 2) [a, b] (w.alloc (.cells #[.string a, .string b] 9)) (hT.call bP) (own_row (RowAt.new w 9 [.string a, .string b]) (Nat.le_refl _) (by show 2 ≤ maxLen; unfold maxLen; omega)) (by simp) (by simp only [List.mem_cons, List.not_mem_nil, or_false]; rintro s (rfl | rfl) <;> assumption))
  have B1 := hide bP
  obtain ⟨w1, hw1⟩ : ∃ z, w.alloc (.cells #[.string a, .string b] 9) = z := ⟨_, rfl⟩
  have HW1 := hide hw1
  rw [hw1] at KR B1
  clear hT bP hw1
  go_enter Tryd.func16, Tryd.ntmps16
  go_wp2_with fail
  try rw [unhide HW1]
  clear HW1
  refine Calls.mono (unhide KR) ?_
  rintro r w2 ⟨h2, b2⟩
  have B2 := hide ((unhide B1).trans (b2.mono (unhide B1).size))
  have hBs := (unhide B1).size
  clear b2 KR
  rcases h2 with ⟨hf, rfl⟩ | ⟨hf, v, vs, X, rfl, hrd, htx, hxl⟩
  · obtain ⟨e, he⟩ : ∃ z, firstE [a, b] = z := ⟨_, rfl⟩
    have HE := hide he
    have he0 : (e != 0) = true := by rw [← he]; simp [hf]
    have HF := hide hf
    rw [he]
    clear hf he
    go_wp2_with fail
    go_ret2
    exact ⟨.inl ⟨unhide HF, by rw [unhide HE]; rfl⟩, unhide B2⟩
  · obtain ⟨x, y, rfl⟩ := two_get hxl
    have hvl := hrd.len
    obtain ⟨u0, u1, rfl⟩ := two_get hvl
    obtain ⟨ht0, hl0⟩ := htx 0 _ _ rfl rfl
    have ho0 := hrd.each 0 _ _ rfl rfl
    obtain ⟨a0, c0, rfl, _, _⟩ := own_sl ho0
    obtain ⟨ht1, hl1⟩ := htx 1 _ _ rfl rfl
    have ho1 := hrd.each 1 _ _ rfl rfl
    obtain ⟨a1, c1, rfl, _, _⟩ := own_sl ho1
    obtain ⟨gl, cl, rfl, hc0, -, hlc, hlm⟩ := own_rd hrd.own (i := 0) rfl
    have hc1 : w2.cell? ⟨gl, 1, none⟩ = some (.slice a1 y.length c1) := row_cell (n := 2) (by exact hrd.own) rfl
    have KL := hide (fun W (hb : Below w2.heap.size w2 W) => table_any (own_call ho0 hb) (own_call ho1 hb) ht0.cps ht1.cps hl0 hl1)
    have HT := hide (And.intro hf (And.intro ht0 (And.intro ht1 (And.intro hl0 hl1))))
    have HS : Hid (∀ W, Below w2.heap.size w2 W → W.cell? ⟨gl, 0, none⟩ = some (.slice a0 x.length c0) ∧ W.cell? ⟨gl, 1, none⟩ = some (.slice a1 y.length c1)) := hide (fun W hW => ⟨kept hW hc0, kept hW hc1⟩)
    have k0 : Below w2.heap.size w2 w2.drew := (Below.refl _ _).drew
    have hsm := lcs_small (y := y) hl0 0 0
    rw [List.drop_zero, List.drop_zero] at hsm
    have HLM := hide hsm
    have KK : Hid (∀ W vm M Ba Bb Bm, Tb W Ba Bb Bm (.slice a0 x.length c0) (.slice a1 y.length c1) vm x y M → TF x y M → Calls Tryd.prog 36 #[.agg #[.slice a0 x.length c0, .slice a1 y.length c1, vm], .int .i64 0, .int .i64 0] W fun r w' => r = .returned (.int .i64 (lcs x y : Int)) ∧ Below W.heap.size W w') := hide (fun W vm M Ba Bb Bm ht hF => by
      have h9 := kept_any ht (i := 0) (j := 0) (by omega) (by omega) (hF 0 0 (by omega) (by omega)) (by rw [List.drop_zero, List.drop_zero]; omega)
      rw [List.drop_zero, List.drop_zero] at h9
      exact h9)
    obtain ⟨n, hn⟩ : ∃ z, x.length = z := ⟨_, rfl⟩
    obtain ⟨m, hm⟩ : ∃ z, y.length = z := ⟨_, rfl⟩
    rw [hn, hm] at KL HS KK
    rw [show ([x, y] : List (List CP)).length = 2 from rfl] at *
    obtain ⟨k, hk⟩ : ∃ z, lcs x y = z := ⟨_, rfl⟩
    have HK := hide hk
    rw [hk] at KK
    clear hf hrd htx hxl hvl ht0 ht1 hl0 hl1 ho0 ho1 hc0 hc1 hn hm hsm hk
    go_wp2_with fail
    go_region_held3 (fun W => W.cell? ⟨gl, 0, none⟩ = some (.slice a0 n c0) ∧ W.cell? ⟨gl, 1, none⟩ = some (.slice a1 m c1))
      (first | exact unhide HS _ k0 | exact unhide HS _ k2 | exact unhide HS _ k1)
      (first | (go_at_call 35; with_reducible refine Calls.mono (unhide KL _ k0) ?_; rintro e w3 h3; obtain ⟨Ba3, Bb3, vm3, M3, rfl, t3, F3, b3⟩ := TabR.shape h3; have k1 : Below w2.heap.size w2 w3 := k0.trans (b3.mono k0.size)) | (go_at_call 36; with_reducible refine Calls.mono (unhide KK _ _ _ _ _ _ t3 F3) ?_; rintro e w4 ⟨rfl, b4⟩; have k2 : Below w2.heap.size w2 w4 := k1.trans (b4.mono k1.size)))
    have B3 := hide ((unhide B2).trans (k2.mono (unhide B2).size))
    clear k0 k1 k2 b3 b4 t3 F3 HS KL KK
    go_wp2_with fail
    go_ret2
    exact ⟨.inr ⟨(unhide HT).1, x, y, (unhide HT).2.1, (unhide HT).2.2.1, (unhide HT).2.2.2.1, (unhide HT).2.2.2.2, by rw [unhide HK]; rfl⟩, unhide B3⟩
end Go.Proofs.YtonabfpgdgnpnaaDoor
