/- The stretches of an edit: the walk. -/
import Derived.Test.YtonabfpgdgnpnaaDoorDSt
namespace Go.Proofs.YtonabfpgdgnpnaaDoor
set_option linter.unusedVariables false
set_option linter.unusedSimpArgs false
open Go.ChangeShapes Go.WideShapes Go.ChangeAt Go.RowKit Go.Joins Go.Deep

theorem alloc_size9 (w : World) (o : Obj) : (w.alloc o).heap.size = w.heap.size + 1 := by show (w.heap.push o).size = _; rw [Array.size_push]
theorem own_g2 {w : World} {B e n c : Nat} {a : Option Addr} {xs : List Value} (h : w.ownsRow B e 2 (.slice a n c) n xs) (hn : 0 < n) : ∃ g, a = some ⟨g, 0, none⟩ ∧ B ≤ g ∧ n ≤ c := by
  rcases h.2 with ⟨_, h2⟩ | ⟨g, cap, cur, e1, e2, e3, e4, e5, e6, e7⟩
  · exfalso
    have h1 := h.1
    rw [h2] at h1
    simp at h1
    omega
  · cases e1
    exact ⟨g, rfl, e2, e4⟩
theorem own_c2 {w : World} {B e n g c : Nat} {xs : List Value} (h : w.ownsRow B e 2 (.slice (some ⟨g, 0, none⟩) n c) n xs) {i : Nat} {u : Value} (hu : xs[i]? = some u) : w.cell? ⟨g, i, none⟩ = some u ∧ w.frozen? ⟨g, i, none⟩ = false := by
  refine ⟨by have := World.ownsRow.cells h (g := g) rfl i u hu; simpa [Addr.add_lit] using this, ?_⟩
  rcases h.2 with ⟨h2, _⟩ | ⟨g', cap, cur, e1, e2, e3, _⟩
  · cases h2
  · cases e1
    exact frozen_of_row w g i _ e e3
theorem cut2_end (M : List Cut2) (f o : Nat) : (cut2C (M ++ [(f, o)]))[M.length * 2 + 1]? = some (.int .i64 (o : Int)) := (cut2_at (L := M ++ [(f, o)]) (i := M.length) (x := (f, o)) (by simp)).2
set_option maxRecDepth 100000 in
set_option maxHeartbeats 4000000 in
theorem stretches_any (a : Option Addr) (l : List Pt) (c f t : Nat) (w : World) (hp : PtsAt w a l) (he : IsEd l f t) (hc : l.length ≤ 4000) : Calls Tryd.prog 46 #[.slice a l.length c] w fun r w' => ∃ v, r = .returned v ∧ w'.ownsRow w.heap.size 84 2 v (sgL l).1.length (cut2C (sgL l).1) ∧ Below w.heap.size w w' := by
  have HP := hide hp
  have HE := hide he
  obtain ⟨n, hn⟩ : ∃ z, l.length = z := ⟨_, rfl⟩
  have HN := hide hn
  rw [hn] at hc ⊢
  clear hp he hn
  go_enter Tryd.func46, Tryd.ntmps46
  go_wp2_with fail
  go_loopw [3, 4, 5, 10] (fun tv av lv iv wr => ∃ (k q A : Nat) (a2 : Option Addr) (c2 : Nat) (L : List Cut2) (la : Int), k ≤ n ∧ A ≤ k * 1099511627776 ∧ iv = .int .i64 (k : Int) ∧ av = .int .i64 (A : Int) ∧ lv = .int .i64 la ∧ tv = .slice a2 q c2 ∧ q ≤ k ∧ Hid (sgL (l.take k) = (L, A, la) ∧ L.length = q) ∧ Hid (wr.ownsRow w.heap.size 84 2 (.slice a2 q c2) q (cut2C L)) ∧ Hid (Below w.heap.size w wr)) (fun _ _ _ iv _ => ((n : Int) - intOf iv).toNat)
  case atStart => exact ⟨0, 0, 0, none, 0, [], 0, by omega, by omega, by simp, by simp, by simp, rfl, by omega, hide ⟨rfl, rfl⟩, hide (World.ownsRow_nil _ _ _ _), hide (Below.refl _ _)⟩
  case round =>
    obtain ⟨k, q, A, a2, c2, L, la, hk, hA, rfl, rfl, rfl, rfl, hqk, HSG, HS, HB⟩ := hrel
    by_cases c1 : (k : Int) < (n : Int)
    · obtain ⟨p, hp⟩ : ∃ p, l[k]? = some p := ⟨_, List.getElem?_eq_getElem (by rw [unhide HN]; omega)⟩
      obtain ⟨b, off, rfl, e0, e1, e2⟩ := (unhide HP).at_ (unhide HB) hp
      have hfit := ed_fit (unhide HE) p (List.mem_of_getElem? hp)
      have HNX := hide ((sgL_take hp).trans (by rw [(unhide HSG).1]))
      have hn1 := hfit.1.1
      have hn2 := hfit.2
      have hkd : p.kind = 1 ∨ p.kind = 3 ∨ p.kind = 2 := by
        rcases hfit.1.cases with ⟨h, _⟩ | ⟨h, _⟩ | ⟨h, _⟩
        · exact .inl h
        · exact .inr (.inl h)
        · exact .inr (.inr h)
      obtain ⟨nn, hnn⟩ : ∃ z : Nat, p.n = (z : Int) := ⟨p.n.toNat, by omega⟩
      have hnt : p.n.toNat = nn := by omega
      rw [hnn] at hn1 hn2 e1
      obtain ⟨kd, hkd2⟩ : ∃ z, p.kind = z := ⟨_, rfl⟩
      rw [hkd2] at hkd e0
      have HKN := hide (And.intro hkd2 hnt)
      obtain ⟨tx, htx⟩ : ∃ z, p.text = z := ⟨_, rfl⟩
      rw [htx] at e2
      have HBA := hide ((unhide HB).alloc (unhide HB).size (.cells #[.int .i64 kd, .int .i64 (nn : Int), .string tx] 39))
      have hal0 : Below wr.heap.size wr (wr.alloc (.cells #[.int .i64 kd, .int .i64 (nn : Int), .string tx] 39)) := (Below.refl _ _).alloc (Nat.le_refl _) _
      have HS := hide (own_call (unhide HS) hal0)
      have k0 : (0 : Int) ≤ (k : Int) := by omega
      have hsum : IntKind.i64.wrap ((A : Int) + (nn : Int)) = (A : Int) + (nn : Int) := by rw [IntKind.wrap_i64] <;> omega
      clear hp hfit hnn hnt hkd2 htx hal0
      rcases hkd with hkd | hkd | hkd
      · subst hkd
        have HSG2 : Hid (sgL (l.take (k + 1)) = (L, A + nn, 1)) := hide (by rw [unhide HNX]; unfold sgS; rw [(unhide HKN).1, if_neg (by decide), if_neg (by decide), (unhide HKN).2])
        go_wp2_with fail
        exact ⟨⟨k + 1, q, A + nn, a2, c2, L, 1, by omega, by omega, by simp, by simp, by simp, rfl, by omega, hide ⟨unhide HSG2, (unhide HSG).2⟩, HS, HBA⟩, by simp [intOf]; omega⟩
      · subst hkd
        by_cases hla : la = 2
        · subst hla
          have HSG2 : Hid (sgL (l.take (k + 1)) = (L.dropLast ++ [((L.getLast?.getD (0, 0)).1, A + nn)], A + nn, 3)) := hide (by rw [unhide HNX]; unfold sgS; rw [(unhide HKN).1, if_neg (by decide), if_pos rfl, if_pos rfl, (unhide HKN).2])
          obtain ⟨M, x0, hMx⟩ : ∃ M x, L = M ++ [x] := by
            rcases List.eq_nil_or_concat L with h9 | ⟨M, x, h9⟩
            · exact absurd h9 (by have := sgL_two (l := l.take k); rw [(unhide HSG).1] at this; exact this rfl)
            · exact ⟨M, x, by rw [h9, List.concat_eq_append]⟩
          obtain ⟨f0, o0⟩ := x0
          subst hMx
          obtain ⟨r, hr⟩ : ∃ z, M.length = z := ⟨_, rfl⟩
          have hqr : q = r + 1 := by rw [← (unhide HSG).2, List.length_append, hr]; rfl
          subst hqr
          obtain ⟨g4, rfl, hg4, hc4⟩ := own_g2 (unhide HS) (by omega)
          have hend := own_c2 (unhide HS) (cut2_end M f0 o0)
          rw [hr] at hend
          have he1 := hend.1
          have he2 := hend.2
          have HS5 := hide (own_set2 (unhide HS) (r * 2 + 1) (.int .i64 ((A + nn : Nat) : Int)) (by omega))
          have hcl := cut2C_last M f0 o0 (A + nn)
          rw [hr] at hcl
          rw [hcl] at HS5
          have HB5 : Hid (Below w.heap.size w ((wr.alloc (.cells #[.int .i64 3, .int .i64 (nn : Int), .string tx] 39)).setCell ⟨g4, r * 2 + 1, none⟩ (.int .i64 ((A + nn : Nat) : Int)))) := hide ((unhide HBA).setCell (by show w.heap.size ≤ g4; exact hg4) _)
          have hqI : ((r + 1 : Nat) : Int) - 1 = (r : Int) := by omega
          have r0 : (0 : Int) ≤ (r : Int) := by omega
          have HR := RowAt.new wr 39 [.int .i64 3, .int .i64 (nn : Int), .string tx]
          have hne9 : g4 ≠ wr.heap.size := fun hz => tag_ne (unhide HS) HR (by decide) (by rw [← hz]; rfl)
          have ho5 : Only (fun z => z = g4) (wr.alloc (.cells #[.int .i64 3, .int .i64 (nn : Int), .string tx] 39)) ((wr.alloc (.cells #[.int .i64 3, .int .i64 (nn : Int), .string tx] 39)).setCell ⟨g4, r * 2 + 1, none⟩ (.int .i64 ((A + nn : Nat) : Int))) := (Only.refl _ _).set g4 (r * 2 + 1) _ rfl
          have k50 := (HR.only ho5 (fun hz => hne9 hz.symm)).cell 0
          have HSG3 : Hid (sgL (l.take (k + 1)) = (M ++ [(f0, A + nn)], A + nn, 3)) := hide (by have h9 := unhide HSG2; simp at h9; exact h9)
          have HLM : Hid ((M ++ [(f0, A + nn)]).length = r + 1) := hide (by rw [List.length_append, hr]; rfl)
          clear hend hcl hr HR ho5 HS HBA
          go_wp2_with fail
          exact ⟨⟨k + 1, r + 1, A + nn, _, c2, M ++ [(f0, A + nn)], 3, by omega, by omega, by simp, by simp, by simp, rfl, by omega, hide ⟨unhide HSG3, unhide HLM⟩, HS5, HB5⟩, by simp [intOf]; omega⟩
        · have hla2 : (la == 2) = false := by simp [hla]
          have hla3 : (la != 2) = true := by simp [hla]
          have HSG2 : Hid (sgL (l.take (k + 1)) = (L ++ [(A, A + nn)], A + nn, 3)) := hide (by rw [unhide HNX]; unfold sgS; rw [(unhide HKN).1, if_neg (by decide), if_pos rfl, if_neg hla, (unhide HKN).2])
          have HRA := hide (RowAt.new wr 39 [.int .i64 3, .int .i64 (nn : Int), .string tx])
          have hal : Below (wr.alloc (.cells #[.int .i64 3, .int .i64 (nn : Int), .string tx] 39)).heap.size (wr.alloc (.cells #[.int .i64 3, .int .i64 (nn : Int), .string tx] 39)) ((wr.alloc (.cells #[.int .i64 3, .int .i64 (nn : Int), .string tx] 39)).alloc (.cells #[.int .i64 (A : Int), .int .i64 (A : Int)] 84)) := (Below.refl _ _).alloc (Nat.le_refl _) _
          have HS2 := hide (own_call (unhide HS) hal)
          have HB2 := hide ((unhide HBA).trans (hal.mono (unhide HBA).size))
          have hsz9 : (wr.alloc (.cells #[.int .i64 3, .int .i64 (nn : Int), .string tx] 39)).heap.size = wr.heap.size + 1 := alloc_size9 _ _
          have HC2 := hide (RowAt.new (wr.alloc (.cells #[.int .i64 3, .int .i64 (nn : Int), .string tx] 39)) 84 [.int .i64 (A : Int), .int .i64 (A : Int)])
          rw [hsz9] at HC2
          clear hsz9
          have HR2 := hide ((unhide HRA).below hal (unhide HRA).lt)
          clear hal
          go_wp2_with (at_builtin; refine unhide ?_)
          obtain ⟨i9, hi9, hz9, hs9, hb9⟩ := info84
          refine hide ?_
          refine wpList_append_own_at _ rfl _ _ 81 rfl w.heap.size 84 i9 (.agg #[.int .i64 0, .int .i64 0]) 2 16 Tryd.underlying81 hi9 hz9 hs9 hb9 rfl (by decide) (.slice a2 q c2) q (cut2C L) rfl (unhide HS2) ⟨wr.heap.size + 1, 0, none⟩ 1 1 [.int .i64 (A : Int), .int .i64 (A : Int)] rfl rfl (fun j u hj => by
            have h9 := (unhide HC2).cell j
            rw [hj] at h9
            rw [Addr.add_lit, Nat.zero_add]
            exact h9) (fun u hu => by
            simp only [List.mem_cons, List.not_mem_nil, or_false] at hu
            rcases hu with rfl | rfl <;> rfl) (by unfold maxLen; omega) (by omega) (unhide HB2).size ?_
          intro v' w3 ho hg _ _
          obtain ⟨a4, c4, rfl, _, _⟩ := own_sl3 ho
          have o3 := grown_only hg
          have HB3 := hide ((unhide HB2).trans (o3.below (unhide HB2).size (fun z hz => ((unhide HS2).lt z hz).1)))
          have HS3 : Hid (w3.ownsRow w.heap.size 84 2 (.slice a4 (q + 1) c4) (q + 1) (cut2C (L ++ [(A, A)]))) := hide (by rw [cut2C_app]; exact ho)
          have HR3 := (unhide HR2).only o3 (fun hz => tag_ne (unhide HS2) (unhide HR2) (by decide) hz)
          have k30 := HR3.cell 0
          have k31 := HR3.cell 1
          obtain ⟨g4, rfl, hg4, hc4⟩ := own_g2 (unhide HS3) (by omega)
          have hend := own_c2 (unhide HS3) (cut2_end L A A)
          rw [(unhide HSG).2] at hend
          have he1 := hend.1
          have he2 := hend.2
          have HS5 := hide (own_set2 (unhide HS3) (q * 2 + 1) (.int .i64 ((A + nn : Nat) : Int)) (by omega))
          have HB5 : Hid (Below w.heap.size w (w3.setCell ⟨g4, q * 2 + 1, none⟩ (.int .i64 ((A + nn : Nat) : Int)))) := hide ((unhide HB3).setCell (by show w.heap.size ≤ g4; exact hg4) _)
          have q0 : (0 : Int) ≤ (q : Int) := by omega
          have hcl := cut2C_last L A A (A + nn)
          rw [(unhide HSG).2] at hcl
          rw [hcl] at HS5
          have hne9 : g4 ≠ wr.heap.size := fun hz => tag_ne (unhide HS3) HR3 (by decide) (by rw [← hz]; rfl)
          have ho5 : Only (fun z => z = g4) w3 (w3.setCell ⟨g4, q * 2 + 1, none⟩ (.int .i64 ((A + nn : Nat) : Int))) := (Only.refl _ _).set g4 (q * 2 + 1) _ rfl
          have HR5 := HR3.only ho5 (fun hz => hne9 hz.symm)
          have k50 := HR5.cell 0
          clear ho5 HR5
          clear ho hg o3 HR3 HS2 HB2 HC2 HR2 HRA i9 hi9 hz9 hs9 hb9 HS HS3 HB3 hend hcl
          go_wp2_with fail
          exact ⟨⟨k + 1, q + 1, A + nn, _, c4, L ++ [(A, A + nn)], 3, by omega, by omega, by simp, by simp, by simp, rfl, by omega, hide ⟨unhide HSG2, by rw [List.length_append, (unhide HSG).2]; rfl⟩, HS5, HB5⟩, by simp [intOf]; omega⟩
      · subst hkd
        have HSG2 : Hid (sgL (l.take (k + 1)) = (L ++ [(A, A)], A, 2)) := hide (by rw [unhide HNX]; unfold sgS; rw [(unhide HKN).1, if_pos rfl])
        have HRA := hide (RowAt.new wr 39 [.int .i64 2, .int .i64 (nn : Int), .string tx])
        have hal : Below (wr.alloc (.cells #[.int .i64 2, .int .i64 (nn : Int), .string tx] 39)).heap.size (wr.alloc (.cells #[.int .i64 2, .int .i64 (nn : Int), .string tx] 39)) ((wr.alloc (.cells #[.int .i64 2, .int .i64 (nn : Int), .string tx] 39)).alloc (.cells #[.int .i64 (A : Int), .int .i64 (A : Int)] 84)) := (Below.refl _ _).alloc (Nat.le_refl _) _
        have HS2 := hide (own_call (unhide HS) hal)
        have HB2 := hide ((unhide HBA).trans (hal.mono (unhide HBA).size))
        have hsz9 : (wr.alloc (.cells #[.int .i64 2, .int .i64 (nn : Int), .string tx] 39)).heap.size = wr.heap.size + 1 := alloc_size9 _ _
        have HC2 := hide (RowAt.new (wr.alloc (.cells #[.int .i64 2, .int .i64 (nn : Int), .string tx] 39)) 84 [.int .i64 (A : Int), .int .i64 (A : Int)])
        rw [hsz9] at HC2
        clear hsz9
        have HR2 := hide ((unhide HRA).below hal (unhide HRA).lt)
        clear hal
        go_wp2_with (at_builtin; refine unhide ?_)
        obtain ⟨i9, hi9, hz9, hs9, hb9⟩ := info84
        refine hide ?_
        refine wpList_append_own_at _ rfl _ _ 81 rfl w.heap.size 84 i9 (.agg #[.int .i64 0, .int .i64 0]) 2 16 Tryd.underlying81 hi9 hz9 hs9 hb9 rfl (by decide) (.slice a2 q c2) q (cut2C L) rfl (unhide HS2) ⟨wr.heap.size + 1, 0, none⟩ 1 1 [.int .i64 (A : Int), .int .i64 (A : Int)] rfl rfl (fun j u hj => by
          have h9 := (unhide HC2).cell j
          rw [hj] at h9
          rw [Addr.add_lit, Nat.zero_add]
          exact h9) (fun u hu => by
          simp only [List.mem_cons, List.not_mem_nil, or_false] at hu
          rcases hu with rfl | rfl <;> rfl) (by unfold maxLen; omega) (by omega) (unhide HB2).size ?_
        intro v' w3 ho hg _ _
        obtain ⟨a4, c4, rfl, _, _⟩ := own_sl3 ho
        have o3 := grown_only hg
        have HB3 := hide ((unhide HB2).trans (o3.below (unhide HB2).size (fun z hz => ((unhide HS2).lt z hz).1)))
        have HS3 : Hid (w3.ownsRow w.heap.size 84 2 (.slice a4 (q + 1) c4) (q + 1) (cut2C (L ++ [(A, A)]))) := hide (by rw [cut2C_app]; exact ho)
        have HR3 := (unhide HR2).only o3 (fun hz => tag_ne (unhide HS2) (unhide HR2) (by decide) hz)
        have k30 := HR3.cell 0
        have k31 := HR3.cell 1
        clear ho hg o3 HR3 HS2 HB2 HC2 HR2 HRA i9 hi9 hz9 hs9 hb9 HS
        go_wp2_with fail
        exact ⟨⟨k + 1, q + 1, A, a4, c4, L ++ [(A, A)], 2, by omega, Nat.le_trans hA (Nat.mul_le_mul_right _ (Nat.le_succ k)), by simp, rfl, rfl, rfl, by omega, hide ⟨unhide HSG2, by rw [List.length_append, (unhide HSG).2]; rfl⟩, HS3, HB3⟩, by simp [intOf]; omega⟩
    · obtain rfl : n = k := by omega
      have HF : Hid (sgL l = (L, A, la)) := hide (by have h9 := (unhide HSG).1; rw [List.take_of_length_le (by rw [unhide HN]; exact Nat.le_refl _)] at h9; exact h9)
      go_wp2_with fail
      go_ret
      exact ⟨_, rfl, by rw [unhide HF]; rw [(unhide HSG).2]; exact unhide HS, unhide HB⟩
end Go.Proofs.YtonabfpgdgnpnaaDoor
