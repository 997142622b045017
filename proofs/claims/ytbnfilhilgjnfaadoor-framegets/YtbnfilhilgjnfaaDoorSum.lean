/- The digest of all that was taken in. -/
import Derived.Test.YtbnfilhilgjnfaaDoorAbc
import Derived.Lib.SliceRun
namespace Go.Proofs.YtbnfilhilgjnfaaDoor
set_option linter.unusedVariables false
set_option linter.unusedSimpArgs false
open Go.ChangeShapes Go.WideShapes Go.ChangeAt Go.RowKit

theorem sumL_len (h0 all : List Nat) : (sumL h0 all).length = 32 := by rw [sumL, bytesOf_len]
theorem sumL_8 (h0 all : List Nat) : U8 (sumL h0 all) := bytesOf_8 _ _
theorem nf_eq {all : List Nat} {nf : Nat} (h1 : 64 * nf ≤ all.length) (h2 : all.length ≤ 64 * nf + 64) (h3 : nf = 0 ∨ 64 * nf < all.length) : nf = nfOf all := by
  unfold nfOf
  omega
theorem z27 : (Tryd.prog.info? 90).map (·.size) = some 32 := by kernel_rfl
set_option maxRecDepth 100000 in
theorem info27 : (Tryd.prog.info? 90).map (·.zero) = some (some (.agg (bv (List.replicate 32 0)).toArray)) := by kernel_rfl
theorem zero27 (w : World) : (zeroValue 90).run Tryd.prog w = .ok (.agg (bv (List.replicate 32 0)).toArray) w := by
  have h := info27
  generalize (bv (List.replicate 32 0)).toArray = Z at *
  cases hq : Tryd.prog.info? 90 with
  | none => simp [hq] at h
  | some i => simp [hq] at h; simp [zeroValue, typeInfo, hq, h]
theorem zero5 (w : World) : (zeroValue 5).run Tryd.prog w = .ok (.int .u8 0) w := by
  have h : (Tryd.prog.info? 5).map (·.zero) = some (some (.int .u8 0)) := by kernel_rfl
  cases hq : Tryd.prog.info? 5 with
  | none => simp [hq] at h
  | some i => simp [hq] at h; simp [zeroValue, typeInfo, hq, h]

/-- the rest of a block is cleared -/
theorem clear_row {w : World} {g hd fd : Nat} {Hs blk : List Nat} (hH : Hs.length = 8) (hb : blk.length = 64) (hr : RowAt w g 107 (dcells Hs blk hd fd true)) (hhd : hd ≤ 64) :
    ∃ w', (∀ ty, 0 < 64 - hd → (Builtin.clear_ #[30] ty #[.slice (some ⟨g, 8 + hd, none⟩) (64 - hd) (64 - hd)]).run Tryd.prog w = .ok (.tuple #[]) w') ∧ (hd = 64 → w' = w) ∧ RowAt w' g 107 (dcells Hs (padK (blk.take hd)) hd fd true) ∧ Only (· = g) w w' := by
  have e1 := dcells_len Hs blk hd fd true hH hb
  obtain ⟨r1, r2⟩ := RowAt.setCells (bv (List.replicate (64 - hd) 0)) (8 + hd) _ _ hr (by rw [bv_len, List.length_replicate, e1]; omega)
  rw [dcells_put _ _ _ _ _ _ _ hH (by rw [List.length_replicate, hb]; omega)] at r1
  have e2 : putL blk hd (List.replicate (64 - hd) 0) = padK (blk.take hd) := by
    rw [putL, padK, List.length_replicate, List.length_take, hb, List.drop_of_length_le (by omega), List.append_nil, Nat.min_eq_left hhd]
  rw [e2] at r1
  refine ⟨_, fun ty h0 => ?_, fun h => ?_, r1, r2⟩
  · have := Lib.run_clear_slice (P := Tryd.prog) w 30 5 ty (.int .u8 0) Tryd.underlying30 zero5 rfl rfl g (8 + hd) (64 - hd) (64 - hd) h0 (fun j hj => by rw [hr.cell, List.getElem?_eq_getElem (by rw [e1]; omega)]; rfl) (fun j hj => hr.frozen _)
    rw [this]
    simp [bv]
  · subst h
    rfl

set_option maxRecDepth 100000 in
set_option maxHeartbeats 4000000 in
theorem sum_any (g : Nat) (h0 all : List Nat) (w : World) (hT : Tabs w) (hh : h0.length = 8) (h32 : W32 h0) (hd : Dg w g h0 all) (hbig : all.length ≤ 1000000000) :
    Calls Tryd.prog 75 #[.pointer (some ⟨g, 0, none⟩)] w
      fun e w' => e = .returned (.agg (bv (sumL h0 all)).toArray) ∧ Below w.heap.size w w' := by
  have HD := hide hd
  have HT := hide hT
  have HTW : Hid (7 ≤ w.heap.size) := hide hT.two
  have hz := zero27
  generalize hZ : (bv (List.replicate 32 0)).toArray = Z at hz
  clear hT hd
  obtain ⟨nf, ⟨blk, y1, y2, y3, y4, y5, y6⟩, yc⟩ := unhide HD
  have hnf := nf_eq y3 y4 yc
  obtain ⟨Hs, hHs⟩ : ∃ H, hsK h0 all nf = H := ⟨_, rfl⟩
  obtain ⟨hd, hhd⟩ : ∃ x, all.length - 64 * nf = x := ⟨_, rfl⟩
  obtain ⟨fd, hfd⟩ : ∃ x, 64 * nf = x := ⟨_, rfl⟩
  rw [hhd, hfd] at y5
  rw [hHs, hhd, hfd] at y6
  have hd64 : hd ≤ 64 := by omega
  have hsum : fd + hd = all.length := by omega
  have HHs : Hid (Hs.length = 8) := hide (by rw [← hHs]; exact hsK_len _ _ hh _)
  have HH32 : Hid (W32 Hs) := hide (hHs ▸ hsK_32 all h32 nf (by omega))
  have HSE : Hid (sumL h0 all = bytesOf (foldL Hs (padK (blk.take hd)) (fd + hd) true) 8) := hide (by rw [sumL, ← hnf, hHs, hfd, ← y5, hsum])
  have HF32 : Hid (W32 (foldL Hs (padK (blk.take hd)) (fd + hd) true)) := hide (foldL_32 true (unhide HH32) (by omega))
  have HBL : Hid (blk.length = 64) := hide y1
  have HP8 : Hid (U8 (padK (blk.take hd))) := hide (padK_8 (fun y hy => y2 y (List.mem_of_mem_take hy)))
  have HPL : Hid ((padK (blk.take hd)).length = 64) := hide (padK_len _ (by rw [List.length_take]; omega))
  have HFD : Hid (fd ≤ 1000000000000) := hide (by omega)
  have HZE := hide hZ
  have HZS : Hid (Z.size = 32) := hide (by rw [← hZ, List.size_toArray, bv_len, List.length_replicate])
  have HMD := hide (fun wx (hx : RowAt wx g 107 (dcells Hs blk hd fd true)) => made_any g Hs blk hd fd true wx (unhide HHs) (unhide HBL) hx)
  obtain ⟨D, hD⟩ : ∃ D, (dcells Hs blk hd fd true).toArray = D := ⟨_, rfl⟩
  have HDS : Hid (D.size = 75) := hide (by rw [← hD, List.size_toArray]; exact dcells_len _ _ _ _ _ (unhide HHs) (unhide HBL))
  have HDO : Hid (D.all (·.oneCell') = true) := hide (by rw [← hD]; simp [dcells, u32v, bv, Value.oneCell'])
  have hz5 := zero55
  generalize hZ5 : (dcells (List.replicate 8 0) (List.replicate 64 0) 0 0 false).toArray = Z5 at hz5
  have HZ5 : Hid (Z5.size = 75) := hide (by rw [← hZ5, List.size_toArray]; exact dcells_len _ _ _ _ _ (List.length_replicate ..) (List.length_replicate ..))
  have B2 : Below w.heap.size w ((w.alloc (.cells Z 90)).alloc (.cells Z 90)) := ((Below.refl _ _).alloc (Nat.le_refl _) _).alloc (by rw [size_alloc]; omega) _
  have RS2 : RowAt ((w.alloc (.cells Z 90)).alloc (.cells Z 90)) (w.heap.size + 1) 90 (bv (List.replicate 32 0)) := by
    have := RowAt.new (w.alloc (.cells Z 90)) 90 (bv (List.replicate 32 0))
    rw [size_alloc, hZ] at this
    exact this
  have RT2 : RowAt ((w.alloc (.cells Z 90)).alloc (.cells Z 90)) w.heap.size 90 (bv (List.replicate 32 0)) := by
    have := RowAt.new w 90 (bv (List.replicate 32 0))
    rw [hZ] at this
    exact this.only (p := fun _ => False) ((Only.refl _ _).alloc _) id
  have S2 : ((w.alloc (.cells Z 90)).alloc (.cells Z 90)).heap.size = w.heap.size + 2 := by rw [size_alloc, size_alloc]
  have RG2 := y6.below B2 y6.lt
  have T2 := (unhide HT).below B2
  clear y1 y2 y3 y4 y5 y6 yc hnf hHs hhd hfd hsum HD HT hZ hZ5
  go_enter Tryd.func75, Tryd.ntmps75
  go_wp2_with fail
  generalize (w.alloc (.cells Z 90)).alloc (.cells Z 90) = w2 at *
  refine Calls.mono (unhide HMD w2 RG2) ?_
  rintro e wx ⟨rfl, rfl⟩
  obtain ⟨B, hB⟩ : ∃ B, w2.heap.size = B := ⟨_, rfl⟩
  have HBB : Hid (B = w.heap.size + 2) := hide (by rw [← hB, S2])
  have HG2 := hide (RG2.arr hD)
  have R3 : RowAt (w2.alloc (.cells D 107)) B 107 (dcells Hs blk hd fd true) := by
    have := RowAt.new w2 107 (dcells Hs blk hd fd true)
    rw [hD, hB] at this
    exact this
  have b3 : Below w2.heap.size w2 (w2.alloc (.cells D 107)) := (Below.refl _ _).alloc (Nat.le_refl _) _
  have HB3 := hide (B2.trans (b3.mono B2.size))
  have HRS3 := hide (RS2.below b3 RS2.lt)
  have HRT3 := hide (RT2.below b3 RT2.lt)
  have HT3 := hide (T2.below b3)
  have HR3 := hide R3
  have c72 := (R3.cell 72).trans (dcells_get (unhide HHs) (unhide HBL)).1
  clear RG2 R3 b3 B2 RS2 RT2 T2 hD S2 HMD
  obtain ⟨w4, hcl, hcl64, r4, o4⟩ := clear_row (unhide HHs) (unhide HBL) (unhide HR3) hd64
  have HR4 := hide r4
  have HO4 : Hid (Only (· = B) (w2.alloc (.cells D 107)) w4) := hide o4
  have HDF := hide (dfold_any B hd fd true true Hs (padK (blk.take hd)) w4 ((unhide HT3).only o4 (fun k hk => by have := unhide HBB; have := unhide HTW; omega)) (by have := unhide HBB; have := unhide HTW; omega) (unhide HHs) (unhide HH32) (unhide HPL) (unhide HP8) hd64 (unhide HFD) r4)
  clear r4 o4
  generalize hw3 : w2.alloc (.cells D 107) = w3 at HB3 HRS3 HRT3 HT3 HR3 c72 hcl hcl64 HO4
  have hw3' := hide hw3
  clear hw3
  by_cases h64 : hd = 64
  · have hw4 : w3 = w4 := (hcl64 h64).symm
    have hclear : ∀ ty, (Builtin.clear_ #[30] ty #[.slice (some ⟨B, 8, none⟩) 0 0]).run Tryd.prog w3 = .ok (.tuple #[]) w4 := fun ty => by
      rw [hw4]
      simp [Builtin.clear_, run_underlying Tryd.underlying30]
    have HHD := hide h64
    have c72' : w3.cell? ⟨B, 72, none⟩ = some (.int .i64 64) := by rw [c72, h64]; rfl
    clear c72 hcl hcl64 hw4 h64
    go_wp2_with (first
      | (refine wpList_load_row rfl 107 _ rfl g rfl 107 D (0, 0) _ (unhide HG2) Tryd.underlying107 rfl (by rw [z55, unhide HDS]) ?_)
      | (refine wpList_store_new' rfl 107 _ _ rfl D B hB rfl rfl (by rw [z55, unhide HDS]) (by rw [unhide HDS, unhide HZ5]) (unhide HDO) ?_; rw [unhide hw3']))
    refine Calls.mono (unhide HDF) ?_
    rintro e w5 ⟨rfl, r5, o5⟩
    have hF8 : (foldL Hs (padK (blk.take hd)) (fd + hd) true).length = 8 := foldL_len _ _ _ _
    have O5 : Only (· = B) w3 w5 := (unhide HO4).trans o5
    have RT5 := (unhide HRT3).only O5 (by have := unhide HBB; have := unhide HTW; omega)
    have RS5 := (unhide HRS3).only O5 (by have := unhide HBB; have := unhide HTW; omega)
    have HWR := hide (write_any (w.heap.size + 1) 0 8 32 B 0 8 32 90 (bv (List.replicate 32 0)) (foldL Hs (padK (blk.take hd)) (fd + hd) true) w5.drew RS5.drew (by rw [bv_len, List.length_replicate]; omega) (by have := unhide HBB; have := unhide HTW; omega) (unhide HF32) (by omega) (by omega) (by omega) (by omega)
      (fun i hi => by rw [Nat.zero_add]; exact front_cell r5.drew i (by rw [hF8]; exact hi)))
    have HB5 := hide ((unhide HB3).trans (O5.below (unhide HB3).size (fun k hk => by have := unhide HBB; have := unhide HTW; omega)))
    have HRT5 := hide RT5
    clear r5 o5 O5 RT5 RS5 hF8 HDF HO4 HR4
    go_wp2_with fail
    refine wp_region_tail 3 (by kernel_rfl) (by kernel_rfl) ?_
    simp only [List.take_succ_cons, List.take_zero, List.drop_succ_cons, List.drop_zero]
    repeat (go_big_quiet_step (fail))
    refine wpQuiet_nil ?_
    go_wp2_with fail
    refine Calls.mono (unhide HWR) ?_
    rintro e w6 ⟨rfl, r6, o6⟩
    rw [putAt_whole _ _ (by rw [bv_len, bv_len, List.length_replicate, bytesOf_len])] at r6
    have o6' : Only (· = w.heap.size + 1) w5 w6 := (Only.drew (Only.refl _ w5)).trans o6
    have RT6 := (unhide HRT5).only o6' (by omega)
    have HB6 := hide ((unhide HB5).trans (o6'.below (unhide HB5).size (fun k hk => by omega)))
    rw [← unhide HSE] at r6
    obtain ⟨E, hE⟩ : ∃ E, (bv (sumL h0 all)).toArray = E := ⟨_, rfl⟩
    have HE1 := hide (r6.arr hE)
    have HE2 := hide (RT6.arr (unhide HZE))
    have HES : Hid (E.size = 32) := hide (by rw [← hE, List.size_toArray, bv_len, sumL_len])
    have HEO : Hid (E.all (·.oneCell') = true) := hide (hE ▸ one_bv _)
    have HEE := hide hE
    clear r6 o6 o6' RT6 hE HWR HRT5 HB5
    go_wp2_with (first
      | (refine wpList_load_row rfl 90 _ rfl (w.heap.size + 1) rfl 90 E (0, 0) _ (unhide HE1) Tryd.underlying90 rfl (by rw [z27, unhide HES]) ?_)
      | (refine wpList_store_row rfl 90 _ _ rfl w.heap.size E rfl rfl 90 Z (unhide HE2) (by rw [z27, unhide HES]) (by rw [unhide HES, unhide HZS]) (unhide HEO) ?_))
    refine bodyPost_ret (results_cell_row Tryd.results75 _ _ w.heap.size 90 E (0, 0) _ rfl (setRow_heap _ _ _ _ _ _ (unhide HE2)) Tryd.underlying90 rfl (by rw [z27, unhide HES])) rfl ⟨?_, ?_⟩
    · rw [← unhide HEE]
    · exact Below.trans (unhide HB6) ⟨rfl, rfl, rfl, by simp [World.setRow], fun k hk => setRow_other _ _ _ _ (by omega)⟩
  · have hcl' := fun ty => hcl ty (by omega)
    by_cases hzz : hd = 0
    · have hclear : ∀ ty, (Builtin.clear_ #[30] ty #[.slice (some ⟨B, 8, none⟩) 64 64]).run Tryd.prog w3 = .ok (.tuple #[]) w4 := fun ty => by
        have := hcl' ty
        rw [hzz] at this
        exact this
      have c72' : w3.cell? ⟨B, 72, none⟩ = some (.int .i64 0) := by rw [c72, hzz]; rfl
      clear c72 hcl hcl64 hcl' hzz h64
      go_wp2_with (first
        | (refine wpList_load_row rfl 107 _ rfl g rfl 107 D (0, 0) _ (unhide HG2) Tryd.underlying107 rfl (by rw [z55, unhide HDS]) ?_)
        | (refine wpList_store_new' rfl 107 _ _ rfl D B hB rfl rfl (by rw [z55, unhide HDS]) (by rw [unhide HDS, unhide HZ5]) (unhide HDO) ?_; rw [unhide hw3']))
      refine Calls.mono (unhide HDF) ?_
      rintro e w5 ⟨rfl, r5, o5⟩
      have hF8 : (foldL Hs (padK (blk.take hd)) (fd + hd) true).length = 8 := foldL_len _ _ _ _
      have O5 : Only (· = B) w3 w5 := (unhide HO4).trans o5
      have RT5 := (unhide HRT3).only O5 (by have := unhide HBB; have := unhide HTW; omega)
      have RS5 := (unhide HRS3).only O5 (by have := unhide HBB; have := unhide HTW; omega)
      have HWR := hide (write_any (w.heap.size + 1) 0 8 32 B 0 8 32 90 (bv (List.replicate 32 0)) (foldL Hs (padK (blk.take hd)) (fd + hd) true) w5.drew RS5.drew (by rw [bv_len, List.length_replicate]; omega) (by have := unhide HBB; have := unhide HTW; omega) (unhide HF32) (by omega) (by omega) (by omega) (by omega)
        (fun i hi => by rw [Nat.zero_add]; exact front_cell r5.drew i (by rw [hF8]; exact hi)))
      have HB5 := hide ((unhide HB3).trans (O5.below (unhide HB3).size (fun k hk => by have := unhide HBB; have := unhide HTW; omega)))
      have HRT5 := hide RT5
      clear r5 o5 O5 RT5 RS5 hF8 HDF HO4 HR4
      go_wp2_with fail
      refine wp_region_tail 3 (by kernel_rfl) (by kernel_rfl) ?_
      simp only [List.take_succ_cons, List.take_zero, List.drop_succ_cons, List.drop_zero]
      repeat (go_big_quiet_step (fail))
      refine wpQuiet_nil ?_
      go_wp2_with fail
      refine Calls.mono (unhide HWR) ?_
      rintro e w6 ⟨rfl, r6, o6⟩
      rw [putAt_whole _ _ (by rw [bv_len, bv_len, List.length_replicate, bytesOf_len])] at r6
      have o6' : Only (· = w.heap.size + 1) w5 w6 := (Only.drew (Only.refl _ w5)).trans o6
      have RT6 := (unhide HRT5).only o6' (by omega)
      have HB6 := hide ((unhide HB5).trans (o6'.below (unhide HB5).size (fun k hk => by omega)))
      rw [← unhide HSE] at r6
      obtain ⟨E, hE⟩ : ∃ E, (bv (sumL h0 all)).toArray = E := ⟨_, rfl⟩
      have HE1 := hide (r6.arr hE)
      have HE2 := hide (RT6.arr (unhide HZE))
      have HES : Hid (E.size = 32) := hide (by rw [← hE, List.size_toArray, bv_len, sumL_len])
      have HEO : Hid (E.all (·.oneCell') = true) := hide (hE ▸ one_bv _)
      have HEE := hide hE
      clear r6 o6 o6' RT6 hE HWR HRT5 HB5
      go_wp2_with (first
        | (refine wpList_load_row rfl 90 _ rfl (w.heap.size + 1) rfl 90 E (0, 0) _ (unhide HE1) Tryd.underlying90 rfl (by rw [z27, unhide HES]) ?_)
        | (refine wpList_store_row rfl 90 _ _ rfl w.heap.size E rfl rfl 90 Z (unhide HE2) (by rw [z27, unhide HES]) (by rw [unhide HES, unhide HZS]) (unhide HEO) ?_))
      refine bodyPost_ret (results_cell_row Tryd.results75 _ _ w.heap.size 90 E (0, 0) _ rfl (setRow_heap _ _ _ _ _ _ (unhide HE2)) Tryd.underlying90 rfl (by rw [z27, unhide HES])) rfl ⟨?_, ?_⟩
      · rw [← unhide HEE]
      · exact Below.trans (unhide HB6) ⟨rfl, rfl, rfl, by simp [World.setRow], fun k hk => setRow_other _ _ _ _ (by omega)⟩
    · have b1 : (hd : Int) < 64 := by omega
      have b2 : ¬ (64 : Int) < (hd : Int) := by omega
      have b3 : ¬ (hd : Int) < 0 := by omega
      have b4 : ¬ 64 = hd := fun e => h64 e.symm
      clear hcl hcl64
      go_wp2_with (first
        | (refine wpList_load_row rfl 107 _ rfl g rfl 107 D (0, 0) _ (unhide HG2) Tryd.underlying107 rfl (by rw [z55, unhide HDS]) ?_)
        | (refine wpList_store_new' rfl 107 _ _ rfl D B hB rfl rfl (by rw [z55, unhide HDS]) (by rw [unhide HDS, unhide HZ5]) (unhide HDO) ?_; rw [unhide hw3']))
      refine Calls.mono (unhide HDF) ?_
      rintro e w5 ⟨rfl, r5, o5⟩
      have hF8 : (foldL Hs (padK (blk.take hd)) (fd + hd) true).length = 8 := foldL_len _ _ _ _
      have O5 : Only (· = B) w3 w5 := (unhide HO4).trans o5
      have RT5 := (unhide HRT3).only O5 (by have := unhide HBB; have := unhide HTW; omega)
      have RS5 := (unhide HRS3).only O5 (by have := unhide HBB; have := unhide HTW; omega)
      have HWR := hide (write_any (w.heap.size + 1) 0 8 32 B 0 8 32 90 (bv (List.replicate 32 0)) (foldL Hs (padK (blk.take hd)) (fd + hd) true) w5.drew RS5.drew (by rw [bv_len, List.length_replicate]; omega) (by have := unhide HBB; have := unhide HTW; omega) (unhide HF32) (by omega) (by omega) (by omega) (by omega)
        (fun i hi => by rw [Nat.zero_add]; exact front_cell r5.drew i (by rw [hF8]; exact hi)))
      have HB5 := hide ((unhide HB3).trans (O5.below (unhide HB3).size (fun k hk => by have := unhide HBB; have := unhide HTW; omega)))
      have HRT5 := hide RT5
      clear r5 o5 O5 RT5 RS5 hF8 HDF HO4 HR4
      go_wp2_with fail
      refine wp_region_tail 3 (by kernel_rfl) (by kernel_rfl) ?_
      simp only [List.take_succ_cons, List.take_zero, List.drop_succ_cons, List.drop_zero]
      repeat (go_big_quiet_step (fail))
      refine wpQuiet_nil ?_
      go_wp2_with fail
      refine Calls.mono (unhide HWR) ?_
      rintro e w6 ⟨rfl, r6, o6⟩
      rw [putAt_whole _ _ (by rw [bv_len, bv_len, List.length_replicate, bytesOf_len])] at r6
      have o6' : Only (· = w.heap.size + 1) w5 w6 := (Only.drew (Only.refl _ w5)).trans o6
      have RT6 := (unhide HRT5).only o6' (by omega)
      have HB6 := hide ((unhide HB5).trans (o6'.below (unhide HB5).size (fun k hk => by omega)))
      rw [← unhide HSE] at r6
      obtain ⟨E, hE⟩ : ∃ E, (bv (sumL h0 all)).toArray = E := ⟨_, rfl⟩
      have HE1 := hide (r6.arr hE)
      have HE2 := hide (RT6.arr (unhide HZE))
      have HES : Hid (E.size = 32) := hide (by rw [← hE, List.size_toArray, bv_len, sumL_len])
      have HEO : Hid (E.all (·.oneCell') = true) := hide (hE ▸ one_bv _)
      have HEE := hide hE
      clear r6 o6 o6' RT6 hE HWR HRT5 HB5
      go_wp2_with (first
        | (refine wpList_load_row rfl 90 _ rfl (w.heap.size + 1) rfl 90 E (0, 0) _ (unhide HE1) Tryd.underlying90 rfl (by rw [z27, unhide HES]) ?_)
        | (refine wpList_store_row rfl 90 _ _ rfl w.heap.size E rfl rfl 90 Z (unhide HE2) (by rw [z27, unhide HES]) (by rw [unhide HES, unhide HZS]) (unhide HEO) ?_))
      refine bodyPost_ret (results_cell_row Tryd.results75 _ _ w.heap.size 90 E (0, 0) _ rfl (setRow_heap _ _ _ _ _ _ (unhide HE2)) Tryd.underlying90 rfl (by rw [z27, unhide HES])) rfl ⟨?_, ?_⟩
      · rw [← unhide HEE]
      · exact Below.trans (unhide HB6) ⟨rfl, rfl, rfl, by simp [World.setRow], fun k hk => setRow_other _ _ _ _ (by omega)⟩
end Go.Proofs.YtbnfilhilgjnfaaDoor
