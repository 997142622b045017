/- The reference's digests of an entry, and of two digests. -/
import Derived.Test.YtonkgiiacholeaaDoorAHalf
import Derived.Test.YtonkgiiacholeaaDoorRefK
import Derived.Test.YtonkgiiacholeaaDoorNew
namespace Go.Proofs.YtonkgiiacholeaaDoor
set_option linter.unusedVariables false
set_option linter.unusedSimpArgs false
open Go.ChangeShapes Go.WideShapes Go.ChangeAt Go.RowKit Go.Joins

theorem digest0 (uv : Value) (b : List Nat) (w : World) (hb : Byt w uv b) (hb8 : U8 b) (hbl : b.length ≤ 1000000) :
    Calls Tryd.prog 59 #[.slice none 0 0, uv] w fun e w' => e = .returned (.agg (bv (sumL (stW 0) b)).toArray) ∧ Below w.heap.size w w' := by
  have := digest_any (.slice none 0 0) uv [] b w (.inl ⟨rfl, rfl⟩) hb (fun y hy => by cases hy) hb8 (by simp) hbl
  simpa [kblk] using this
set_option maxRecDepth 100000 in
set_option maxHeartbeats 4000000 in
theorem rleaf_any (v : Value) (d : List Nat) (w : World) (hd : Byt w v d) (h8 : U8 d) (hl : d.length ≤ 100000) : Calls Tryd.prog 51 #[v] w fun e w' => e = .returned (.agg (bv (leafL d)).toArray) ∧ Below w.heap.size w w' := by
  have hz := zero27
  generalize hZ : (bv (List.replicate 32 0)).toArray = Z at hz
  have HZE := hide hZ
  have HZS : Hid (Z.size = 32) := hide (by rw [← hZ, List.size_toArray, bv_len, List.length_replicate])
  have b1 : Below w.heap.size w (w.alloc (.cells Z 43)) := (Below.refl _ _).alloc (Nat.le_refl _) _
  have HR1 : Hid (RowAt (w.alloc (.cells Z 43)) w.heap.size 43 (bv (List.replicate 32 0))) := hide (hZ ▸ RowAt.new w 43 (bv (List.replicate 32 0)))
  have HB1 := hide b1
  obtain ⟨va, vc, rfl⟩ := byt_shape hd
  obtain ⟨n, hn⟩ : ∃ n, d.length = n := ⟨_, rfl⟩
  rw [hn] at hd ⊢
  obtain ⟨i0, hi, hz0, hz1, hz2⟩ := info_parts info5
  have s1 := size_alloc w (.cells Z 43)
  have s2 := size_alloc (w.alloc (.cells Z 43)) (.cells #[.int .u8 0] 5)
  have b2 : Below w.heap.size w ((w.alloc (.cells Z 43)).alloc (.cells #[.int .u8 0] 5)) := b1.alloc (by omega) _
  have c2 : Below (w.heap.size + 1) (w.alloc (.cells Z 43)) ((w.alloc (.cells Z 43)).alloc (.cells #[.int .u8 0] 5)) := (Below.refl _ _).alloc (by omega) _
  have O2 : ((w.alloc (.cells Z 43)).alloc (.cells #[.int .u8 0] 5)).ownsRow (w.heap.size + 1) 5 1 (.slice (some ⟨w.heap.size + 1, 0, none⟩) 1 1) 1 [.int .u8 0] := by
    have := World.ownsRow_lit (e := 5) (size := 1) (base := w.heap.size + 1) (w.alloc (.cells Z 43)) #[.int .u8 0] 1 (by omega) (by unfold maxLen; omega) rfl
    rw [s1] at this
    exact this
  have S2 := byt_src (hd.call b2) hn
  have L2 : (bv d).length = n * 1 := by rw [bv_len, hn]; omega
  have s5 : w.heap.size + 1 ≤ ((w.alloc (.cells Z 43)).alloc (.cells #[.int .u8 0] 5)).heap.size := by omega
  have HN := hide hn
  have HL := hide hl
  have H8 := hide h8
  have HR2 := hide ((unhide HR1).below c2 (by omega))
  have HB2 := hide b2
  have HC2 := hide c2
  clear hd hn h8 b1 b2 c2 hZ s1 s2 HR1 HB1
  go_enter Tryd.func51, Tryd.ntmps51
  go_wp2_with (at_builtin; refine wpList_append_src _ rfl _ _ 22 rfl (w.heap.size + 1) 5 i0 (.int .u8 0) 1 1 Tryd.underlying22 hi hz0 hz1 hz2 rfl (by decide) _ _ _ rfl O2 va n vc (bv d) rfl L2 S2.1 S2.2 (bv_one _) ?c3 ?c4 s5 ?_)
  case c3 => have := unhide HL; have := unhide HN; unfold maxLen; omega
  case c4 => have := unhide HL; have := unhide HN; omega
  generalize (w.alloc (.cells Z 43)).alloc (.cells #[.int .u8 0] 5) = w2 at *
  intro a7 c7 w7 O7 g7
  have k7 : Below (w.heap.size + 1) w2 w7 := (Below.refl _ _).grown g7 s5 (fun k hk => (O2.lt k hk).1)
  have HR7 := hide ((unhide HR2).below k7 (by omega))
  have HB7 := hide ((unhide HB2).trans (k7.mono (by omega)))
  have Y7 : Byt w7 (.slice a7 (1 + n) c7) (0 :: d) := Byt.of_own (own_cast O7 (by rw [List.length_cons, unhide HN]; omega) rfl)
  have HOF : Hid (Calls Tryd.prog 59 #[.slice none 0 0, .slice a7 (1 + n) c7] w7 fun e w' => e = .returned (.agg (bv (leafL d)).toArray) ∧ Below w7.heap.size w7 w') :=
    hide (digest0 _ (0 :: d) w7 Y7 (fun y hy => by
      rcases List.mem_cons.1 hy with rfl | hy
      · omega
      · exact unhide H8 y hy) (by have := unhide HL; rw [List.length_cons]; omega))
  clear O7 g7 k7 Y7 O2 S2 L2 s5 HR2 HB2 HC2 H8 HN
  go_wp2_with fail
  refine Calls.mono (unhide HOF) ?_
  rintro e w5 ⟨rfl, b5⟩
  obtain ⟨E, hE⟩ : ∃ E, (bv (leafL d)).toArray = E := ⟨_, rfl⟩
  rw [hE]
  have HE2 := hide (((unhide HR7).below b5 (unhide HR7).lt).arr (unhide HZE))
  have HES : Hid (E.size = 32) := hide (by rw [← hE, List.size_toArray, bv_len, leafL_len])
  have HEO : Hid (E.all (·.oneCell') = true) := hide (hE ▸ one_bv _)
  have HEE := hide hE
  have HB5 := hide ((unhide HB7).trans (b5.mono (unhide HB7).size))
  clear b5 hE HOF
  go_wp2_with (refine wpList_store_row rfl 43 _ _ rfl w.heap.size E rfl rfl 43 Z (unhide HE2) (by rw [z27, unhide HES]) (by rw [unhide HES, unhide HZS]) (unhide HEO) ?_)
  refine bodyPost_ret (results_cell_row Tryd.results51 _ _ w.heap.size 43 E (0, 0) _ rfl (setRow_heap _ _ _ _ _ _ (unhide HE2)) Tryd.underlying43 rfl (by rw [z27, unhide HES])) rfl ⟨?_, ?_⟩
  · rw [← unhide HEE]
  · exact Below.trans (unhide HB5) ⟨rfl, rfl, rfl, by simp [World.setRow], fun k hk => setRow_other _ _ _ _ (by omega)⟩
set_option maxRecDepth 100000 in
set_option maxHeartbeats 4000000 in
theorem rknot_any (a b : List Nat) (w : World) (ha : a.length = 32) (hb : b.length = 32) (ha8 : U8 a) (hb8 : U8 b) : Calls Tryd.prog 52 #[.agg (bv a).toArray, .agg (bv b).toArray] w fun e w' => e = .returned (.agg (bv (knotL a b)).toArray) ∧ Below w.heap.size w w' := by
  have hz := zero27
  generalize hZ : (bv (List.replicate 32 0)).toArray = Z at hz
  have HZE := hide hZ
  have HZS : Hid (Z.size = 32) := hide (by rw [← hZ, List.size_toArray, bv_len, List.length_replicate])
  have b1 : Below w.heap.size w (w.alloc (.cells Z 43)) := (Below.refl _ _).alloc (Nat.le_refl _) _
  have HR1 : Hid (RowAt (w.alloc (.cells Z 43)) w.heap.size 43 (bv (List.replicate 32 0))) := hide (hZ ▸ RowAt.new w 43 (bv (List.replicate 32 0)))
  have HB1 := hide b1
  obtain ⟨A, hA⟩ : ∃ A, (bv a).toArray = A := ⟨_, rfl⟩
  obtain ⟨B, hB⟩ : ∃ B, (bv b).toArray = B := ⟨_, rfl⟩
  rw [hA, hB]
  obtain ⟨i0, hi, hz0, hz1, hz2⟩ := info_parts info5
  clear b1 HB1 HR1
  have s1 := size_alloc w (.cells A 43)
  have s2 := size_alloc (w.alloc (.cells A 43)) (.cells B 43)
  have s3 := size_alloc ((w.alloc (.cells A 43)).alloc (.cells B 43)) (.cells Z 43)
  have RA : RowAt (w.alloc (.cells A 43)) w.heap.size 43 (bv a) := hA ▸ RowAt.new w 43 (bv a)
  have RB : RowAt ((w.alloc (.cells A 43)).alloc (.cells B 43)) (w.heap.size + 1) 43 (bv b) := by
    have := RowAt.new (w.alloc (.cells A 43)) 43 (bv b)
    rw [hB, s1] at this
    exact this
  have RZ : RowAt (((w.alloc (.cells A 43)).alloc (.cells B 43)).alloc (.cells Z 43)) (w.heap.size + 1 + 1) 43 (bv (List.replicate 32 0)) := by
    have := RowAt.new ((w.alloc (.cells A 43)).alloc (.cells B 43)) 43 (bv (List.replicate 32 0))
    rw [hZ, s2, s1] at this
    exact this
  obtain ⟨W3, hW3⟩ : ∃ W, ((w.alloc (.cells A 43)).alloc (.cells B 43)).alloc (.cells Z 43) = W := ⟨_, rfl⟩
  have hs3 : W3.heap.size = w.heap.size + 1 + 1 + 1 := by rw [← hW3, s3, s2, s1]
  have B3 : Below w.heap.size w W3 := hW3 ▸ (((Below.refl _ _).alloc (Nat.le_refl _) (.cells A 43)).alloc (by omega) (.cells B 43)).alloc (by omega) (.cells Z 43)
  have RA3 : RowAt W3 w.heap.size 43 (bv a) := hW3 ▸ (RA.below (B := (w.alloc (.cells A 43)).heap.size) (((Below.refl _ _).alloc (Nat.le_refl _) (.cells B 43)).alloc (by omega) (.cells Z 43)) RA.lt)
  have RB3 : RowAt W3 (w.heap.size + 1) 43 (bv b) := hW3 ▸ (RB.below (B := ((w.alloc (.cells A 43)).alloc (.cells B 43)).heap.size) ((Below.refl _ _).alloc (Nat.le_refl _) (.cells Z 43)) RB.lt)
  rw [hW3] at RZ
  obtain ⟨W4, hW4⟩ : ∃ W, W3.alloc (.cells #[.int .u8 1] 5) = W := ⟨_, rfl⟩
  have k4 : Below W3.heap.size W3 W4 := hW4 ▸ (Below.refl _ _).alloc (Nat.le_refl _) _
  have hs4 : W4.heap.size = w.heap.size + 1 + 1 + 1 + 1 := by rw [← hW4, size_alloc, hs3]
  have O4 : W4.ownsRow (w.heap.size + 1 + 1 + 1) 5 1 (.slice (some ⟨w.heap.size + 1 + 1 + 1, 0, none⟩) 1 1) 1 [.int .u8 1] := by
    have := World.ownsRow_lit (e := 5) (size := 1) (base := w.heap.size + 1 + 1 + 1) W3 #[.int .u8 1] 1 (by omega) (by unfold maxLen; omega) rfl
    rw [hs3] at this
    rw [← hW4]
    exact this
  have SA := byt_src (byt_arr (RA3.below k4 RA3.lt) ha (by unfold maxLen; omega)) ha
  have LA : (bv a).length = 32 * 1 := by rw [bv_len, ha]
  have LB : (bv b).length = 32 * 1 := by rw [bv_len, hb]
  have s5 : w.heap.size + 1 + 1 + 1 ≤ W4.heap.size := by omega
  have HRB := hide (RB3.below k4 RB3.lt)
  have HRZ := hide (RZ.below k4 RZ.lt)
  have HB4 := hide (B3.trans (k4.mono B3.size))
  have HW3 := hide hW3
  have HW4 := hide hW4
  have HBL := hide hb
  have H8 : Hid (U8 (1 :: (a ++ b))) := hide (fun y hy => by
    rcases List.mem_cons.1 hy with rfl | hy
    · omega
    · rcases List.mem_append.1 hy with hy | hy
      · exact ha8 y hy
      · exact hb8 y hy)
  have HLN : Hid ((1 :: (a ++ b)).length = 1 + 32 + 32) := hide (by rw [List.length_cons, List.length_append, ha, hb])
  clear hA hB ha hb ha8 hb8 s1 s2 s3 RA RB RZ RA3 RB3 hs3 B3 hW3 hW4 hZ k4
  go_enter Tryd.func52, Tryd.ntmps52
  go_wp2_with (at_builtin; rw [unhide HW3, unhide HW4]; refine wpList_append_src _ rfl _ _ 22 rfl (w.heap.size + 1 + 1 + 1) 5 i0 (.int .u8 0) 1 1 Tryd.underlying22 hi hz0 hz1 hz2 rfl (by decide) _ _ _ rfl O4 (some ⟨w.heap.size, 0, none⟩) 32 32 (bv a) rfl LA SA.1 SA.2 (bv_one _) ?c3 ?c4 s5 ?_)
  case c3 => unfold maxLen; omega
  case c4 => omega
  intro a5 c5 w5 O5 g5
  have k5 : Below (w.heap.size + 1 + 1 + 1) W4 w5 := (Below.refl _ _).grown g5 s5 (fun k hk => (O4.lt k hk).1)
  have s6 : w.heap.size + 1 + 1 + 1 ≤ w5.heap.size := Nat.le_trans s5 k5.size
  have RB5 := (unhide HRB).below k5 (by omega)
  have SB := byt_src (byt_arr RB5 (unhide HBL) (by unfold maxLen; omega)) (unhide HBL)
  have HRZ5 := hide ((unhide HRZ).below k5 (by omega))
  have HB5 := hide ((unhide HB4).trans (k5.mono (by omega)))
  clear g5 k5 RB5 O4 SA LA s5 HRB HRZ HB4
  go_wp2_with (at_builtin; refine wpList_append_src _ rfl _ _ 22 rfl (w.heap.size + 1 + 1 + 1) 5 i0 (.int .u8 0) 1 1 Tryd.underlying22 hi hz0 hz1 hz2 rfl (by decide) _ _ _ rfl O5 (some ⟨w.heap.size + 1, 0, none⟩) 32 32 (bv b) rfl LB SB.1 SB.2 (bv_one _) ?c3 ?c4 s6 ?_)
  case c3 => unfold maxLen; omega
  case c4 => omega
  intro a7 c7 w7 O7 g7
  have k7 : Below (w.heap.size + 1 + 1 + 1) w5 w7 := (Below.refl _ _).grown g7 s6 (fun k hk => (O5.lt k hk).1)
  have HR7 := hide ((unhide HRZ5).below k7 (by omega))
  have HB7 := hide ((unhide HB5).trans (k7.mono (by omega)))
  have Y7 : Byt w7 (.slice a7 65 c7) (1 :: (a ++ b)) := Byt.of_own (own_cast O7 (by rw [unhide HLN]) (by simp [bv]))
  have HOF : Hid (Calls Tryd.prog 59 #[.slice none 0 0, .slice a7 65 c7] w7 fun e w' => e = .returned (.agg (bv (knotL a b)).toArray) ∧ Below w7.heap.size w7 w') :=
    hide (digest0 _ (1 :: (a ++ b)) w7 Y7 (unhide H8) (by rw [unhide HLN]; omega))
  clear O7 g7 k7 Y7 O5 SB LB s6 HRZ5 HB5 H8 HLN HBL
  go_wp2_with fail
  refine Calls.mono (unhide HOF) ?_
  rintro e w9 ⟨rfl, b5⟩
  obtain ⟨E, hE⟩ : ∃ E, (bv (knotL a b)).toArray = E := ⟨_, rfl⟩
  rw [hE]
  have HE2 := hide (((unhide HR7).below b5 (unhide HR7).lt).arr (unhide HZE))
  have HES : Hid (E.size = 32) := hide (by rw [← hE, List.size_toArray, bv_len, knotL_len])
  have HEO : Hid (E.all (·.oneCell') = true) := hide (hE ▸ one_bv _)
  have HEE := hide hE
  have HB5 := hide ((unhide HB7).trans (b5.mono (unhide HB7).size))
  clear b5 hE HOF
  go_wp2_with (refine wpList_store_row rfl 43 _ _ rfl (w.heap.size + 1 + 1) E rfl rfl 43 Z (unhide HE2) (by rw [z27, unhide HES]) (by rw [unhide HES, unhide HZS]) (unhide HEO) ?_)
  refine bodyPost_ret (results_cell_row Tryd.results52 _ _ (w.heap.size + 1 + 1) 43 E (0, 0) _ rfl (setRow_heap _ _ _ _ _ _ (unhide HE2)) Tryd.underlying43 rfl (by rw [z27, unhide HES])) rfl ⟨?_, ?_⟩
  · rw [← unhide HEE]
  · exact Below.trans (unhide HB5) ⟨rfl, rfl, rfl, by simp [World.setRow], fun k hk => setRow_other _ _ _ _ (by omega)⟩
end Go.Proofs.YtonkgiiacholeaaDoor
