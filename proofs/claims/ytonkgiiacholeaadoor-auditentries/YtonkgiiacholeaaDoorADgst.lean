/- The digest of a stretch of a log's entries. -/
import Derived.Test.YtonkgiiacholeaaDoorAAdd
namespace Go.Proofs.YtonkgiiacholeaaDoor
set_option linter.unusedVariables false
set_option linter.unusedSimpArgs false
open Go.ChangeShapes Go.WideShapes Go.ChangeAt Go.RowKit Go.Joins

theorem digL_len (E : List (List Nat)) : (digL E).length = 32 := by
  rw [digL]
  split
  · exact knotL_len _ _
  · split
    · exact noneL_len
    · exact leafL_len _
theorem digL_8 (E : List (List Nat)) : U8 (digL E) := by
  rw [digL]
  split
  · exact sumL_8 _ _
  · split
    · exact sumL_8 _ _
    · exact sumL_8 _ _
/-- where a whole stretch's digest lies -/
theorem LogAt.find {w : World} {τ : Nat → Int} {g : Nat} {E : List (List Nat)} (h : LogAt w τ g E) {k a : Nat} (ha : a + 2 ^ k ≤ E.length) (hal : Al a (2 ^ k)) :
    ∃ b N hc gk nk ck, w.cell? ⟨g, 2, none⟩ = some (.slice (some ⟨b, 0, none⟩) N hc) ∧ k < N ∧ w.cell? ⟨b, k, none⟩ = some (.slice (some ⟨gk, 0, none⟩) nk ck) ∧ a / 2 ^ k < nk ∧ w.rangeAt gk (a / 2 ^ k * 32) (bv (digL (cutE E a (2 ^ k)))) := by
  obtain ⟨ev, hv, P, Q, h1, h2, h3⟩ := h
  obtain ⟨q1, q2⟩ := hal.at ha
  have hk : k < bl E.length := lt_bl.2 (by have := Nat.two_pow_pos k; omega)
  have hQl : Q.length = bl E.length := by rw [← heights_len, ← h3, List.length_map]
  have hkQ : k < Q.length := by omega
  obtain ⟨b, hc, hhe, _⟩ := own_some h1.ho (by omega)
  obtain ⟨x, hx⟩ : ∃ x, Q[k]? = some x := ⟨Q[k], List.getElem?_eq_getElem hkQ⟩
  have hx2 : x.2 = lvl E k := by
    have h4 : (Q.map (·.2))[k]? = some x.2 := by rw [List.getElem?_map, hx]; rfl
    rw [h3, heights_get hk] at h4
    exact (Option.some.inj h4).symm
  have hxo := (h1.qo k x hx).1
  obtain ⟨gk, ck, hxe, _⟩ := own_some hxo (by rw [hx2, lvl_len]; exact Nat.lt_of_le_of_lt (Nat.zero_le _) q2)
  have hss : SS w ⟨gk, 0, none⟩ x.2 := SS.of_own (cap := ck) (by rw [← hxe]; exact hxo) (h1.ql k x hx)
  have ho := h1.ho
  rw [hhe] at ho
  have hr := (hss.at_ (a / 2 ^ k) (digL (cutE E a (2 ^ k))) (by rw [hx2, lvl_get q2, q1])).2.2
  simp only [Nat.zero_add] at hr
  refine ⟨b, Q.length, hc, gk, x.2.length, ck, ?_, hkQ, ?_, by rw [hx2, lvl_len]; exact q2, hr⟩
  · have := h1.row.cell 2; rw [hhe] at this; exact this
  · have := ho.cellAt k (by omega)
    rw [this, List.getElem?_map, hx, ← hxe]
    rfl
theorem and_i64 (a b : Nat) (h : a ≤ 1000000) (h' : b ≤ 1000000) : bits .and .i64 (a : Int) (b : Int) = ((a &&& b : Nat) : Int) := by
  have h1 : a &&& b ≤ a := Nat.and_le_left
  show IntKind.i64.wrap ((BitVec.ofInt 64 (a : Int) &&& BitVec.ofInt 64 (b : Int)).toNat : Int) = _
  rw [BitVec.toNat_and, ofInt_u64 a (by omega), ofInt_u64 b (by omega), IntKind.wrap_i64]
  omega
set_option maxRecDepth 100000 in
set_option maxHeartbeats 8000000 in
theorem digest_pow (g : Nat) (E : List (List Nat)) (τ : Nat → Int) (a k : Nat) (w : World) (hL : LogAt w τ g E) (hE : E.length ≤ 1000) (ha : a + 2 ^ k ≤ E.length) (hal : Al a (2 ^ k)) :
    Calls Tryd.prog 58 #[.pointer (some ⟨g, 0, none⟩), .int .i64 (a : Int), .int .i64 ((2 ^ k : Nat) : Int)] w fun e w' => e = .returned (.agg (bv (digL (cutE E a (2 ^ k)))).toArray) ∧ Below w.heap.size w w' := by
  have hz := zero27
  generalize hZ : (bv (List.replicate 32 0)).toArray = Z at hz
  have HZE := hide hZ
  have HZS : Hid (Z.size = 32) := hide (by rw [← hZ, List.size_toArray, bv_len, List.length_replicate])
  have b1 : Below w.heap.size w (w.alloc (.cells Z 43)) := (Below.refl _ _).alloc (Nat.le_refl _) _
  have HR1 : Hid (RowAt (w.alloc (.cells Z 43)) w.heap.size 43 (bv (List.replicate 32 0))) := hide (hZ ▸ RowAt.new w 43 (bv (List.replicate 32 0)))
  have HB1 := hide b1
  obtain ⟨b, N, hc, gk, nk, ck, c2, hkN, bk, hjn, hrg⟩ := hL.find ha hal
  have kb : (k : Int) ≤ 1000 := by have := Nat.lt_two_pow_self (n := k); omega
  obtain ⟨n, hn⟩ : ∃ n, 2 ^ k = n := ⟨_, rfl⟩
  have hp : 1 ≤ n := by rw [← hn]; exact Nat.two_pow_pos k
  have hnm : n ≤ 1000 := by omega
  have hand : bits .and .i64 (n : Int) ((n : Int) - 1) = 0 := by
    have h1 : ((n - 1 : Nat) : Int) = (n : Int) - 1 := by omega
    rw [← h1, and_i64 n (n - 1) (by omega) (by omega), (and_zero hp).2 (by rw [← hn, log2_two])]
    rfl
  have HBL := hide (fun w => len_any n w (by omega))
  rw [show bl n = k + 1 by rw [← hn, bl_two]] at HBL
  rw [hn] at hrg hjn ⊢
  obtain ⟨jj, hjj⟩ : ∃ j, a / n = j := ⟨_, rfl⟩
  have jb : (jj : Int) ≤ 1000 := by rw [← hjj]; have := Nat.div_le_self a n; omega
  rw [hjj] at hrg hjn
  obtain ⟨E1, hE1⟩ : ∃ A, bv (digL (cutE E a n)) = A := ⟨_, rfl⟩
  have hEs : E1.length = 32 := by rw [← hE1, bv_len, digL_len]
  have HEO1 : E1.toArray.all (·.oneCell') = true := hE1 ▸ one_bv _
  rw [hE1] at hrg ⊢
  have g2 : (w.alloc (.cells Z 43)).cell? ⟨g, 2, none⟩ = some (.slice (some ⟨b, 0, none⟩) N hc) := (World.cell?_alloc_lt _ _ _ (World.block_lt_of_cell? _ _ c2)).trans c2
  have bk2 : (w.alloc (.cells Z 43)).cell? ⟨b, k, none⟩ = some (.slice (some ⟨gk, 0, none⟩) nk ck) := (World.cell?_alloc_lt _ _ _ (World.block_lt_of_cell? _ _ bk)).trans bk
  have r2 := World.rangeAt_alloc hrg (.cells Z 43)
  have hq : (a : Int) / (n : Int) = (jj : Int) := by rw [← hjj]; simp
  have kI : (k : Int) < (N : Int) := by omega
  have jI : (jj : Int) < (nk : Int) := by omega
  have aI : (a : Int) ≤ 1000 := by omega
  have nI : (n : Int) ≤ 1000 := by omega
  have n1 : (1 : Int) ≤ (n : Int) := by omega
  have HLD : Hid (∀ w', w' = (w.alloc (.cells Z 43)).drew → (loadVar 43 ⟨gk, jj * 32, none⟩).run Tryd.prog w' = .ok (.agg E1.toArray) w') := hide (fun w' e => by
    subst e
    exact run_loadVar_mid _ gk (jj * 32) 43 E1 _ ((World.rangeAt_drew _ _ _ _).2 r2) Tryd.underlying43 rfl (by rw [hEs]; exact z27))
  obtain ⟨EA, hEA⟩ : ∃ A, E1.toArray = A := ⟨_, rfl⟩
  rw [hEA] at HLD ⊢
  have HES : Hid (EA.size = 32) := hide (by rw [← hEA, List.size_toArray, hEs])
  have HEO : Hid (EA.all (·.oneCell') = true) := hide (hEA ▸ HEO1)
  clear hEA r2 hEs HEO1
  clear hZ hL hal ha c2 bk hrg hn b1 hjj hE1 hE
  have HQ := hide hq
  go_enter Tryd.func58, Tryd.ntmps58
  go_wp2_with fail
  generalize w.alloc (.cells Z 43) = w1 at *
  refine wp_region_tail 15 (by kernel_rfl) (by kernel_rfl) ?_
  simp only [List.take_succ_cons, List.take_zero, List.drop_succ_cons, List.drop_zero]
  repeat (first
    | (refine wpQuiet_load rfl 43 _ rfl ⟨gk, jj * 32, none⟩ rfl _ (unhide HLD) ?_; simp only [Act.put, List.setIfInBounds_toArray, List.set_cons_succ, List.set_cons_zero])
    | go_big_quiet_step ((exact Calls.mono (unhide HBL _) (fun _ _ h => ⟨h.1, h.2.symm⟩) _)))
  refine wpQuiet_nil ?_
  have HE2 := hide ((unhide HR1).drew.arr (unhide HZE))
  go_wp2_with (refine wpList_store_row rfl 43 _ _ rfl w.heap.size EA rfl rfl 43 Z (unhide HE2) (by rw [z27, unhide HES]) (by rw [unhide HES, unhide HZS]) (unhide HEO) ?_)
  refine bodyPost_ret (results_cell_row Tryd.results58 _ _ w.heap.size 43 EA (0, 0) _ rfl (setRow_heap _ _ _ _ _ _ (unhide HE2)) Tryd.underlying43 rfl (by rw [z27, unhide HES])) rfl ⟨rfl, ?_⟩
  exact Below.trans (unhide HB1).drew ⟨rfl, rfl, rfl, by simp [World.setRow], fun k hk => setRow_other _ _ _ _ (by omega)⟩
set_option maxRecDepth 100000 in
set_option maxHeartbeats 8000000 in
theorem digest_log (g : Nat) (E : List (List Nat)) (τ : Nat → Int) (hE : E.length ≤ 1000) : ∀ (n a : Nat) (w : World), Tabs w → LogAt w τ g E → 1 ≤ n → a + n ≤ E.length → Al a n →
    Calls Tryd.prog 58 #[.pointer (some ⟨g, 0, none⟩), .int .i64 (a : Int), .int .i64 (n : Int)] w fun e w' => e = .returned (.agg (bv (digL (cutE E a n))).toArray) ∧ Below w.heap.size w w' := by
  intro n
  induction n using Nat.strongRecOn with
  | _ n ih =>
  intro a w hT hL h1 ha hal
  by_cases hpow : n = 2 ^ n.log2
  · rw [hpow] at ha hal ⊢
    exact digest_pow g E τ a _ w hL hE ha hal
  have h2 : 2 ≤ n := by
    by_cases h : n = 1
    · subst h; exact absurd rfl hpow
    · omega
  have hh := half_lt h2
  have hhp := half_pos n
  have hc : ¬ n &&& (n - 1) = 0 := fun h => hpow ((and_zero h1).1 h)
  have hand : bits .and .i64 (n : Int) ((n : Int) - 1) = ((n &&& (n - 1) : Nat) : Int) := by
    have h1 : ((n - 1 : Nat) : Int) = (n : Int) - 1 := by omega
    rw [← h1, and_i64 n (n - 1) (by omega) (by omega)]
  obtain ⟨c, hcc⟩ : ∃ c, n &&& (n - 1) = c := ⟨_, rfl⟩
  rw [hcc] at hand hc
  have t1 : ((c : Int) == 0) = false := beq_eq_false_iff_ne.2 (by omega)
  have HD := hide (dig_cut ha h2)
  have HHF := hide (fun w => half_any n w h2 (by omega))
  have HI1 := hide (fun w' hw' => ih (half n) hh a w' (hT.below hw') (hL.call hw') hhp (by omega) (hal.less (by omega)))
  have HI2 := hide (fun w' hw' => ih (n - half n) (by omega) (a + half n) w' (hT.below hw') (hL.call hw') (by omega) (by omega) (hal.next h2))
  obtain ⟨k, hk⟩ : ∃ k, half n = k := ⟨_, rfl⟩
  rw [hk] at HHF HI1 HI2 hh hhp HD
  have e1 : ((a + k : Nat) : Int) = (a : Int) + (k : Int) := by omega
  have e2 : ((n - k : Nat) : Int) = (n : Int) - (k : Int) := by omega
  rw [e1, e2] at HI2
  have HT := hide hT
  have aI : (a : Int) ≤ 1000 := by omega
  have nI : (n : Int) ≤ 1000 := by omega
  have kI : (k : Int) < (n : Int) := by omega
  have k1 : (1 : Int) ≤ (k : Int) := by omega
  have hz := zero27
  generalize hZ : (bv (List.replicate 32 0)).toArray = Z at hz
  have HZE := hide hZ
  have HZS : Hid (Z.size = 32) := hide (by rw [← hZ, List.size_toArray, bv_len, List.length_replicate])
  have b1 : Below w.heap.size w (w.alloc (.cells Z 43)) := (Below.refl _ _).alloc (Nat.le_refl _) _
  have HR1 : Hid (RowAt (w.alloc (.cells Z 43)) w.heap.size 43 (bv (List.replicate 32 0))) := hide (hZ ▸ RowAt.new w 43 (bv (List.replicate 32 0)))
  have HB1 := hide b1
  rw [unhide HD]
  have u1 := digL_8 (cutE E a k)
  have u2 := digL_8 (cutE E (a + k) (n - k))
  have l1 := digL_len (cutE E a k)
  have l2 := digL_len (cutE E (a + k) (n - k))
  obtain ⟨D1, hD1⟩ : ∃ D, digL (cutE E a k) = D := ⟨_, rfl⟩
  obtain ⟨D2, hD2⟩ : ∃ D, digL (cutE E (a + k) (n - k)) = D := ⟨_, rfl⟩
  rw [hD1] at HI1 u1 l1
  rw [hD2] at HI2 u2 l2
  rw [hD1, hD2]
  have HKN := hide (fun w' hw' => knot_any D1 D2 w' (hT.below hw') l1 l2 u1 u2)
  obtain ⟨A1, hA1⟩ : ∃ A, (bv D1).toArray = A := ⟨_, rfl⟩
  obtain ⟨A2, hA2⟩ : ∃ A, (bv D2).toArray = A := ⟨_, rfl⟩
  obtain ⟨KD, hKD⟩ : ∃ K, knotL D1 D2 = K := ⟨_, rfl⟩
  have HKL : Hid (KD.length = 32) := hide (by rw [← hKD, knotL_len])
  rw [hA1] at HI1 HKN
  rw [hA2] at HI2 HKN
  rw [hKD] at HKN ⊢
  clear ih hT hL hal ha hpow hc h2 h1 hk hh hhp hcc hD1 hD2 hA1 hA2 hKD u1 u2 l1 l2 HD hZ b1 e1 e2 hE
  go_enter Tryd.func58, Tryd.ntmps58
  go_wp2_with fail
  refine Calls.mono (unhide HHF _) ?_
  rintro e w2 ⟨rfl, rfl⟩
  generalize w.alloc (.cells Z 43) = w1 at *
  go_wp2_with fail
  refine Calls.mono (unhide HI1 _ (unhide HB1)) ?_
  rintro e w3 ⟨rfl, b3⟩
  have HB3 := hide ((unhide HB1).trans (b3.mono (unhide HB1).size))
  have HR3 := hide ((unhide HR1).below b3 (unhide HR1).lt)
  clear b3 HI1 HB1 HR1
  go_wp2_with fail
  refine Calls.mono (unhide HI2 _ (unhide HB3)) ?_
  rintro e w4 ⟨rfl, b4⟩
  have HB4 := hide ((unhide HB3).trans (b4.mono (unhide HB3).size))
  have HR4 := hide ((unhide HR3).below b4 (unhide HR3).lt)
  clear b4 HI2 HB3 HR3
  go_wp2_with fail
  refine Calls.mono (unhide HKN _ (unhide HB4)) ?_
  rintro e w5 ⟨rfl, b5⟩
  obtain ⟨E, hE⟩ : ∃ E, (bv (KD)).toArray = E := ⟨_, rfl⟩
  rw [hE]
  have HE2 := hide (((unhide HR4).below b5 (unhide HR4).lt).arr (unhide HZE))
  have HES : Hid (E.size = 32) := hide (by rw [← hE, List.size_toArray, bv_len, unhide HKL])
  have HEO : Hid (E.all (·.oneCell') = true) := hide (hE ▸ one_bv _)
  have HEE := hide hE
  have HB5 := hide ((unhide HB4).trans (b5.mono (unhide HB4).size))
  clear b5 hE HKN
  go_wp2_with (refine wpList_store_row rfl 43 _ _ rfl w.heap.size E rfl rfl 43 Z (unhide HE2) (by rw [z27, unhide HES]) (by rw [unhide HES, unhide HZS]) (unhide HEO) ?_)
  refine bodyPost_ret (results_cell_row Tryd.results58 _ _ w.heap.size 43 E (0, 0) _ rfl (setRow_heap _ _ _ _ _ _ (unhide HE2)) Tryd.underlying43 rfl (by rw [z27, unhide HES])) rfl ⟨?_, ?_⟩
  · rw [← unhide HEE]
  · exact Below.trans (unhide HB5) ⟨rfl, rfl, rfl, by simp [World.setRow], fun k hk => setRow_other _ _ _ _ (by omega)⟩
end Go.Proofs.YtonkgiiacholeaaDoor
