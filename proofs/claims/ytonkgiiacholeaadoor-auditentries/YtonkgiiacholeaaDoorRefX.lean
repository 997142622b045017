/- The reference's mix: the state behind a block. -/
import Derived.Test.YtonkgiiacholeaaDoorRefN
import Derived.Deep.DeepCutAuto
namespace Go.Proofs.YtonkgiiacholeaaDoor
set_option linter.unusedVariables false
set_option linter.unusedSimpArgs false
open Go.ChangeShapes Go.WideShapes Go.ChangeAt Go.RowKit Go.Joins

set_option maxRecDepth 100000 in
set_option maxHeartbeats 4000000 in
theorem rmix_any (h b : List Nat) (n : Nat) (last : Bool) (v : Value) (w : World) (hh : h.length = 8) (h32 : W32 h) (hv : Byt w v b) (hb : b.length = 64) (h8 : U8 b) (hn : n ≤ 1000000000000) :
    Calls Tryd.prog 83 #[.agg (u32v h).toArray, v, .int .i64 (n : Int), .bool last] w
      fun e w' => e = .returned (.agg (u32v (foldL h b n last)).toArray) ∧ Below w.heap.size w w' := by
  rcases hv with ⟨_, hnil⟩ | ⟨ad, cap, rfl, hv1, hv2, hv3⟩
  · rw [hnil] at hb
    cases hb
  rw [hb] at hv1 ⊢
  have HV := hide hv3
  have HH := hide hh
  have H32 := hide h32
  have H8 := hide h8
  have HBL := hide hb
  have hz := zero50
  generalize hZ : (u32v (List.replicate 8 0)).toArray = Z at hz
  have HZS : Hid (Z.size = 8) := hide (by rw [← hZ]; rfl)
  have hy := zero65
  generalize hY : (u32v (List.replicate 16 0)).toArray = Y at hy
  have HYS : Hid (Y.size = 16) := hide (by rw [← hY]; rfl)
  obtain ⟨L, hL⟩ : ∃ L, (u32v h).toArray = L := ⟨_, rfl⟩
  rw [hL]
  have HLS : Hid (L.size = 8) := hide (by rw [← hL, List.size_toArray, u32v_len, hh])
  obtain ⟨g, hg⟩ : ∃ g, w.heap.size = g := ⟨_, rfl⟩
  have RH : RowAt (((w.alloc (.cells L 126)).alloc (.cells Z 126)).alloc (.cells Y 135)) g 126 (u32v h) := by
    have := RowAt.new w 126 (u32v h)
    rw [hL, hg] at this
    exact this.only (p := fun _ => False) (((Only.refl _ _).alloc _).alloc _) id
  have RT : RowAt (((w.alloc (.cells L 126)).alloc (.cells Z 126)).alloc (.cells Y 135)) (g + 1) 126 (u32v (List.replicate 8 0)) := by
    have := RowAt.new (w.alloc (.cells L 126)) 126 (u32v (List.replicate 8 0))
    rw [hZ, size_alloc, hg] at this
    exact this.only (p := fun _ => False) ((Only.refl _ _).alloc _) id
  have RM : RowAt (((w.alloc (.cells L 126)).alloc (.cells Z 126)).alloc (.cells Y 135)) (g + 2) 135 (u32v (mAt b 0)) := by
    have := RowAt.new ((w.alloc (.cells L 126)).alloc (.cells Z 126)) 135 (u32v (List.replicate 16 0))
    rw [hY, size_alloc, size_alloc, hg] at this
    exact this
  have B1 : Below w.heap.size w (((w.alloc (.cells L 126)).alloc (.cells Z 126)).alloc (.cells Y 135)) := (((Below.refl _ _).alloc (Nat.le_refl _) _).alloc (by rw [size_alloc]; omega) _).alloc (by rw [size_alloc, size_alloc]; omega) _
  have HRH := hide RH
  have HRT := hide RT
  have HRM := hide RM
  have HB1 := hide B1
  have HLE := hide hL
  have HZE := hide hZ
  have HYE := hide hY
  have HS1 : Hid ((((w.alloc (.cells L 126)).alloc (.cells Z 126)).alloc (.cells Y 135)).heap.size = g + 3) := hide (by rw [size_alloc, size_alloc, size_alloc, hg])
  have HAL : Hid (ad.block < g) := hide (by
    have := hv3 0 (b.getD 0 0) (by rw [List.getD_eq_getElem?_getD, List.getElem?_eq_getElem (by omega)]; rfl)
    have := lt_of_cell this
    rw [add_block] at this
    omega)
  have HG := hide hg
  have hg' := hg
  clear RH RT RM B1 hL hZ hY hv3 hh h32 h8 hb
  have hz66 := zero66
  generalize hZ66 : (i64v (List.replicate 4 0)).toArray = Z66 at hz66
  have HZ66 : Hid (Z66.size = 4) := hide (by rw [← hZ66]; rfl)
  have hz67 := zero67
  generalize hZ67 : (i64v (List.replicate 32 0)).toArray = Z67 at hz67
  have HZ67 : Hid (Z67.size = 32) := hide (by rw [← hZ67]; rfl)
  have hz68 := zero68
  generalize hZ68 : (i64v (List.replicate 16 0)).toArray = Z68 at hz68
  have HZ68 : Hid (Z68.size = 16) := hide (by rw [← hZ68]; rfl)
  clear hZ66 hZ67 hZ68
  go_enter Tryd.func83, Tryd.ntmps83
  go_wp2_with fail
  generalize ((w.alloc (.cells L 126)).alloc (.cells Z 126)).alloc (.cells Y 135) = w1 at *
  go_loopw [21] (fun s wr => ∃ k : Nat, k ≤ 16 ∧ s = .int .i64 (k : Int) ∧ Hid (RowAt wr (g + 2) 135 (u32v (mAt b k)) ∧ Only (· = g + 2) w1 wr)) (fun s _ => (16 - intOf s).toNat)
  case atStart => exact ⟨0, by omega, rfl, unhide HRM, Only.refl _ _⟩
  case round =>
    obtain ⟨k, hk, rfl, HC⟩ := hrel
    by_cases hlt : k < 16
    · have hkI : (k : Int) < 16 := by omega
      have HLT := hide hlt
      go_wp2_with fail
      go_loopw [24] (fun s wq => ∃ j : Nat, j ≤ 4 ∧ s = .int .i64 (j : Int) ∧ Hid (RowAt wq (g + 2) 135 (u32v (mPart b k j)) ∧ Only (· = g + 2) w1 wq)) (fun s _ => (4 - intOf s).toNat)
      case atStart => exact ⟨0, by omega, rfl, by rw [← mAt_part b k hlt]; exact (unhide HC).1, (unhide HC).2⟩
      case round =>
        obtain ⟨j, hj, rfl, HD⟩ := hrel
        by_cases hjl : j < 4
        · have hjI : (j : Int) < 4 := by omega
          obtain ⟨q, hq⟩ : ∃ q : Nat, 4 * k + j = q := ⟨_, rfl⟩
          have hqI : 4 * (k : Int) + (j : Int) = (q : Int) := by omega
          have hq64 : (q : Int) < 64 := by omega
          have hqN : q < 64 := by omega
          obtain ⟨d1, d2⟩ := unhide HD
          have hkl : k < (mPart b k j).length := by rw [mPart_len b k j hlt]; omega
          have c1 := u32_cell d1 k hkl
          rw [mPart_get] at c1
          have z1 := d1.frozen k
          have hy0 : b[q]? = some (b.getD q 0) := by rw [List.getD_eq_getElem?_getD, List.getElem?_eq_getElem (by rw [unhide HBL]; omega)]; rfl
          have c2 := d2.cell (q := ad.add q) (by rw [add_block]; have := unhide HAL; omega) (cell_keep (unhide HB1) (by rw [add_block, unhide HG]; exact unhide HAL) (unhide HV q _ hy0))
          have hs : shr b k (j + 1) = shr b k j / 256 + b.getD q 0 * 16777216 := by rw [shr, hq]
          have l1 := shr_lt (unhide H8) k j
          have l2 := (unhide H8).getD q
          have HST : Hid ((mPart b k j).set k (shr b k (j + 1)) = mPart b k (j + 1)) := hide (mPart_set b k j)
          have HD1 := hide d1
          have HD2 := hide d2
          clear hy0 hkl d1 d2 HD HC
          generalize shr b k (j + 1) = s1 at *
          generalize shr b k j = s0 at *
          generalize b.getD q 0 = y at *
          have e1 : ((s0 : Int) / 256 + (y : Int) * 16777216) % 4294967296 = (s1 : Int) := by omega
          have e2 : (y : Int) * 16777216 % 4294967296 = (y : Int) * 16777216 := by omega
          go_wp2_with fail
          refine wp_region_tail 15 (by kernel_rfl) (by kernel_rfl) ?_
          simp only [List.take_succ_cons, List.take_zero, List.drop_succ_cons, List.drop_zero]
          repeat (go_big_quiet_step (fail))
          refine wpQuiet_nil ?_
          go_wp2_with fail
          have e3 : ((s0 : Int) / 256 + (y : Int) * 16777216) = (s1 : Int) := by omega
          have HJ := hide hjl
          go_roundw
          case rel =>
            rw [e3]
            have r := (unhide HD1).set k (.int .u32 (s1 : Int))
            rw [u32v_set, unhide HST] at r
            exact ⟨j + 1, by have := unhide HJ; omega, by go_num, r.drew, ((unhide HD2).set (g + 2) k _ rfl).drew⟩
          case measure => have := unhide HJ; simp [intOf]; omega
        · have hjI : ¬ (j : Int) < 4 := by omega
          obtain rfl : j = 4 := by omega
          go_wp2_with fail
          go_roundw
          case rel => exact ⟨k + 1, by have := unhide HLT; omega, by go_num, by rw [← mAt_succ (unhide H8) k (unhide HLT)]; exact (unhide HD).1, (unhide HD).2⟩
          case measure => have := unhide HLT; simp [intOf]; omega
    · have hkI : ¬ (k : Int) < 16 := by omega
      obtain rfl : k = 16 := by omega
      obtain ⟨m1, o1⟩ := unhide HC
      rw [mAt_16] at m1
      have hgs : g + 3 ≤ wr.heap.size := by have := o1.size; have := unhide HS1; omega
      obtain ⟨gv, hgv⟩ : ∃ x, wr.heap.size = x := ⟨_, rfl⟩
      have b2 : Below wr.heap.size wr (wr.alloc (.cells Y 135)) := (Below.refl _ _).alloc (Nat.le_refl _) _
      have RV : RowAt (wr.alloc (.cells Y 135)) gv 135 (u32v (List.replicate 16 0)) := by
        have := RowAt.new wr 135 (u32v (List.replicate 16 0))
        rw [unhide HYE, hgv] at this
        exact this
      have B2 : Below w.heap.size w (wr.alloc (.cells Y 135)) := ((unhide HB1).trans (o1.below (unhide HB1).size (fun k hk => by have := unhide HG; omega))).trans (b2.mono (by have := unhide HG; omega))
      have M2 := m1.below b2 m1.lt
      have H2 := ((unhide HRH).only o1 (by omega)).below b2 (by omega)
      have T2 := ((unhide HRT).only o1 (by omega)).below b2 (by omega)
      have HWD := hide (words_any (wr.alloc (.cells Y 135)))
      have HM2 := hide M2
      have HH2 := hide H2
      have HT2 := hide T2
      have HV2 := hide RV
      have HB2 := hide B2
      have HGV : Hid (g + 3 ≤ gv) := hide (by omega)
      have HSZ : Hid ((wr.alloc (.cells Y 135)).heap.size = gv + 1) := hide (by rw [size_alloc, hgv])
      clear m1 o1 b2 RV B2 M2 H2 T2 hgs HC HRH HRT HRM
      go_wp2_with fail
      rw [hgv] at *
      generalize wr.alloc (.cells Y 135) = w2 at *
      refine Calls.mono (unhide HWD) ?_
      rintro e w3 ⟨rfl, b3⟩
      obtain ⟨F, hF⟩ : ∃ F, (u32v firstW).toArray = F := ⟨_, rfl⟩
      rw [hF]
      have HFS : Hid (F.size = 8) := hide (by rw [← hF]; rfl)
      have HFO : Hid (F.all (·.oneCell') = true) := hide (hF ▸ one_u32 _)
      obtain ⟨gf, hgf⟩ : ∃ x, w3.heap.size = x := ⟨_, rfl⟩
      have b4 : Below w3.heap.size w3 (w3.alloc (.cells F 126)) := (Below.refl _ _).alloc (Nat.le_refl _) _
      have RF : RowAt (w3.alloc (.cells F 126)) gf 126 (u32v firstW) := by
        have := RowAt.new w3 126 (u32v firstW)
        rw [hF, hgf] at this
        exact this
      have b34 := b3.trans (b4.mono b3.size)
      have HB4 := hide ((unhide HB2).trans (b34.mono (unhide HB2).size))
      have HM4 := hide ((unhide HM2).below b34 (unhide HM2).lt)
      have HH4 := hide ((unhide HH2).below b34 (unhide HH2).lt)
      have HT4 := hide ((unhide HT2).below b34 (unhide HT2).lt)
      have HV4 := hide ((unhide HV2).below b34 (unhide HV2).lt)
      have HF4 := hide RF
      have HSZ4 : Hid ((w3.alloc (.cells F 126)).heap.size = gf + 1) := hide (by rw [size_alloc, hgf])
      have HGF : Hid (gv < gf) := hide (by have := b3.size; have := unhide HSZ; omega)
      clear b3 b4 RF b34 HWD HM2 HH2 HT2 HV2 HB2 hF
      go_wp2_with (refine wpList_store_new' rfl 126 _ _ rfl F gf hgf rfl rfl (by rw [z50, unhide HFS]) (by rw [unhide HFS, unhide HZS]) (unhide HFO) ?_)
      generalize w3.alloc (.cells F 126) = w4 at *
      have n1 : ¬ g = gv := by have := unhide HGV; omega
      have n2 : ¬ gf = gv := by have := unhide HGF; omega
      have n3 : ¬ gv = g := by have := unhide HGV; omega
      have n4 : ¬ gv = gf := by have := unhide HGF; omega
      go_loopw [46] (fun s wr => ∃ k : Nat, k ≤ 8 ∧ s = .int .i64 (k : Int) ∧ Hid (RowAt wr gv 135 (u32v (sAt h k)) ∧ Only (· = gv) w4 wr)) (fun s _ => (8 - intOf s).toNat)
      case atStart => exact ⟨0, by omega, rfl, unhide HV4, Only.refl _ _⟩
      case round =>
        obtain ⟨k, hk, rfl, HC⟩ := hrel
        by_cases hlt : k < 8
        · have hkI : (k : Int) < 8 := by omega
          have hkI2 : (k : Int) + 8 < 16 := by omega
          have hkI3 : (k : Int) < 16 := by omega
          have HLT := hide hlt
          obtain ⟨d1, d2⟩ := unhide HC
          have c1 := u32_cell ((unhide HH4).only d2 n1) k (by rw [unhide HH]; exact hlt)
          have c2 := u32_cell ((unhide HF4).only d2 n2) k (by rw [first_len]; exact hlt)
          have z1 := d1.frozen k
          have z2 := d1.frozen (k + 8)
          have c3 := u32_cell d1 k (by rw [sAt_len (unhide HH) k hk]; omega)
          have c4 := u32_cell d1 (k + 8) (by rw [sAt_len (unhide HH) k hk]; omega)
          have HST := hide (sAt_step (unhide HH) k hlt)
          have HD1 := hide d1
          have HD2 := hide d2
          clear d1 d2 HC
          generalize h.getD k 0 = x1 at *
          generalize firstW.getD k 0 = x2 at *
          go_wp2_with fail
          go_roundw
          case rel =>
            have r := ((unhide HD1).set k (.int .u32 (x1 : Int))).set (k + 8) (.int .u32 (x2 : Int))
            rw [u32v_set, u32v_set, unhide HST] at r
            exact ⟨k + 1, by have := unhide HLT; omega, by go_num, r, (((unhide HD2).set gv k _ rfl).set gv (k + 8) _ rfl)⟩
          case measure => have := unhide HLT; simp [intOf]; omega
        · have hkI : ¬ (k : Int) < 8 := by omega
          obtain rfl : k = 8 := by omega
          obtain ⟨d1, d2⟩ := unhide HC
          rw [sAt_8 (unhide HH)] at d1
          have HD1 := hide d1
          have HD2 := hide d2
          have c1 : wr.cell? ⟨gv, 12, none⟩ = some (.int .u32 1359893119) := by
            obtain ⟨a0, b0, c0, d0, e0, f0, g0, i0, he⟩ := eight_of (unhide HH)
            have := d1.cell 12
            rw [he] at this
            exact this
          have c2 : wr.cell? ⟨gv, 13, none⟩ = some (.int .u32 2600822924) := by
            obtain ⟨a0, b0, c0, d0, e0, f0, g0, i0, he⟩ := eight_of (unhide HH)
            have := d1.cell 13
            rw [he] at this
            exact this
          have c3 : wr.cell? ⟨gv, 14, none⟩ = some (.int .u32 528734635) := by
            obtain ⟨a0, b0, c0, d0, e0, f0, g0, i0, he⟩ := eight_of (unhide HH)
            have := d1.cell 14
            rw [he] at this
            exact this
          have z1 := d1.frozen 12
          have z2 := d1.frozen 13
          have z3 := d1.frozen 14
          clear d1 d2 HC HF4
          have x1 : bits .xor .u32 1359893119 ((n : Int) % 4294967296) = ((1359893119 ^^^ (n % 4294967296) : Nat) : Int) := u32_xor_nat 1359893119 (n % 4294967296) (by decide) (by omega)
          have x2 : bits .xor .u32 2600822924 ((n : Int) / 4294967296) = ((2600822924 ^^^ (n / 4294967296) : Nat) : Int) := u32_xor_nat 2600822924 (n / 4294967296) (by decide) (by omega)
          have HSP := hide (spread_set (unhide HH) n)
          obtain ⟨X1, hX1⟩ : ∃ x, 1359893119 ^^^ (n % 4294967296) = x := ⟨_, rfl⟩
          obtain ⟨X2, hX2⟩ : ∃ x, 2600822924 ^^^ (n / 4294967296) = x := ⟨_, rfl⟩
          rw [hX1, hX2] at HSP
          rw [hX1] at x1
          rw [hX2] at x2
          clear hX1 hX2
          have HL4 : Hid (w4.heap.size = gf + 1) := HSZ4
          go_upto_if 77 with fail
          go_cut [] (fun wx => Hid (RowAt wx gv 135 (u32v (spreadL h n last)) ∧ Only (· = gv) w4 wx))
          case first =>
            have r1 := ((unhide HD1).set 12 (.int .u32 (X1 : Int))).set 13 (.int .u32 (X2 : Int))
            have o1 := ((unhide HD2).set gv 12 (.int .u32 (X1 : Int)) rfl).set gv 13 (.int .u32 (X2 : Int)) rfl
            have r2 := r1.set 14 (.int .u32 ((3766232660 : Nat) : Int))
            have o2 := o1.set gv 14 (.int .u32 ((3766232660 : Nat) : Int)) rfl
            rw [u32v_set, u32v_set] at r1
            rw [u32v_set, u32v_set, u32v_set] at r2
            rw [(unhide HSP).1] at r1
            rw [(unhide HSP).2] at r2
            have R1 := hide r1
            have R2 := hide r2
            have O1 := hide o1
            have O2 := hide o2
            clear r1 r2 o1 o2
            cases last
            · go_wp2_with fail
              go_meet
              case rel => exact ⟨unhide R1, unhide O1⟩
            · go_wp2_with fail
              go_meet
              case rel => exact ⟨unhide R2, unhide O2⟩
          case rest =>
            clear c1 c2 c3 z1 z2 z3 x1 x2 HSP HD1 HD2
            obtain ⟨r5, o5⟩ := unhide hcut
            have HSL : Hid ((spreadL h n last).length = 16) := hide (spreadL_len h n _ (unhide HH))
            have HS32 : Hid (W32 (spreadL h n last)) := hide (spreadL_32 last (unhide H32) (by omega))
            obtain ⟨gr, hgr⟩ : ∃ x, wc.heap.size = x := ⟨_, rfl⟩
            have hgr2 : gf < gr := by have := o5.size; have := unhide HL4; omega
            -- the table of rows
            obtain ⟨R0, hR0⟩ : ∃ O, (i64v (rowR 0)).toArray = O := ⟨_, rfl⟩
            have HB0r : Hid (Tryd.prog.built 148 (partsI (rowR 0)) = some R0) := hide (hR0 ▸ built66_0)
            obtain ⟨R1, hR1⟩ : ∃ O, (i64v (rowR 1)).toArray = O := ⟨_, rfl⟩
            have HB1r : Hid (Tryd.prog.built 148 (partsI (rowR 1)) = some R1) := hide (hR1 ▸ built66_1)
            obtain ⟨R2, hR2⟩ : ∃ O, (i64v (rowR 2)).toArray = O := ⟨_, rfl⟩
            have HB2r : Hid (Tryd.prog.built 148 (partsI (rowR 2)) = some R2) := hide (hR2 ▸ built66_2)
            obtain ⟨R3, hR3⟩ : ∃ O, (i64v (rowR 3)).toArray = O := ⟨_, rfl⟩
            have HB3r : Hid (Tryd.prog.built 148 (partsI (rowR 3)) = some R3) := hide (hR3 ▸ built66_3)
            obtain ⟨R4, hR4⟩ : ∃ O, (i64v (rowR 4)).toArray = O := ⟨_, rfl⟩
            have HB4r : Hid (Tryd.prog.built 148 (partsI (rowR 4)) = some R4) := hide (hR4 ▸ built66_4)
            obtain ⟨R5, hR5⟩ : ∃ O, (i64v (rowR 5)).toArray = O := ⟨_, rfl⟩
            have HB5r : Hid (Tryd.prog.built 148 (partsI (rowR 5)) = some R5) := hide (hR5 ▸ built66_5)
            obtain ⟨R6, hR6⟩ : ∃ O, (i64v (rowR 6)).toArray = O := ⟨_, rfl⟩
            have HB6r : Hid (Tryd.prog.built 148 (partsI (rowR 6)) = some R6) := hide (hR6 ▸ built66_6)
            obtain ⟨R7, hR7⟩ : ∃ O, (i64v (rowR 7)).toArray = O := ⟨_, rfl⟩
            have HB7r : Hid (Tryd.prog.built 148 (partsI (rowR 7)) = some R7) := hide (hR7 ▸ built66_7)
            obtain ⟨E67, hE67⟩ : ∃ E, (i64v rowsR.flatten).toArray = E := ⟨_, rfl⟩
            have HBB : Hid (Tryd.prog.built 149 [(0, .agg R0), (1, .agg R1), (2, .agg R2), (3, .agg R3), (4, .agg R4), (5, .agg R5), (6, .agg R6), (7, .agg R7)] = some E67) := hide (by rw [← hE67, ← hR0, ← hR1, ← hR2, ← hR3, ← hR4, ← hR5, ← hR6, ← hR7]; exact built67)
            have HE67S : Hid (E67.size = 32) := hide (by rw [← hE67]; kernel_rfl)
            have HE67O : Hid (E67.all (·.oneCell') = true) := hide (hE67 ▸ one_i64 _)
            clear hR0 hR1 hR2 hR3 hR4 hR5 hR6 hR7
            have b6 : Below wc.heap.size wc (wc.alloc (.cells E67 149)) := (Below.refl _ _).alloc (Nat.le_refl _) _
            have HR6 : Hid (RowAt (wc.alloc (.cells E67 149)) gr 149 (i64v rowsR.flatten)) := hide (by
              have := RowAt.new wc 149 (i64v rowsR.flatten)
              rw [hE67, hgr] at this
              exact this)
            have HV6 := hide (r5.below b6 r5.lt)
            have HM6 := hide (((unhide HM4).only o5 (by have := unhide HGV; omega)).below b6 (by have := unhide HGV; have := unhide HGF; omega))
            have HH6 := hide (((unhide HH4).only o5 (by have := unhide HGV; omega)).below b6 (by have := unhide HGV; have := unhide HGF; omega))
            have HT6 := hide (((unhide HT4).only o5 (by have := unhide HGV; omega)).below b6 (by have := unhide HGV; have := unhide HGF; omega))
            have HB6 := hide (((unhide HB4).trans (o5.below (unhide HB4).size (fun k hk => by have := unhide HG; have := unhide HGV; omega))).trans (b6.mono (by have := unhide HG; have := unhide HGV; have := unhide HGF; omega)))
            clear r5 o5 b6 HM4 HH4 HT4 HB4 hcut HV4
            go_upto_region 23 with fail
            apply wp_region_lit
            refine wpList_build' rfl 148 _ rfl R0 (partsI (rowR 0)) (by kernel_rfl) (unhide HB0r) ?_
            simp only [Act.put, List.setIfInBounds_toArray, List.set_cons_succ, List.set_cons_zero]
            refine wpList_build' rfl 148 _ rfl R1 (partsI (rowR 1)) (by kernel_rfl) (unhide HB1r) ?_
            simp only [Act.put, List.setIfInBounds_toArray, List.set_cons_succ, List.set_cons_zero]
            refine wpList_build' rfl 148 _ rfl R2 (partsI (rowR 2)) (by kernel_rfl) (unhide HB2r) ?_
            simp only [Act.put, List.setIfInBounds_toArray, List.set_cons_succ, List.set_cons_zero]
            refine wpList_build' rfl 148 _ rfl R3 (partsI (rowR 3)) (by kernel_rfl) (unhide HB3r) ?_
            simp only [Act.put, List.setIfInBounds_toArray, List.set_cons_succ, List.set_cons_zero]
            refine wpList_build' rfl 148 _ rfl R4 (partsI (rowR 4)) (by kernel_rfl) (unhide HB4r) ?_
            simp only [Act.put, List.setIfInBounds_toArray, List.set_cons_succ, List.set_cons_zero]
            refine wpList_build' rfl 148 _ rfl R5 (partsI (rowR 5)) (by kernel_rfl) (unhide HB5r) ?_
            simp only [Act.put, List.setIfInBounds_toArray, List.set_cons_succ, List.set_cons_zero]
            refine wpList_build' rfl 148 _ rfl R6 (partsI (rowR 6)) (by kernel_rfl) (unhide HB6r) ?_
            simp only [Act.put, List.setIfInBounds_toArray, List.set_cons_succ, List.set_cons_zero]
            refine wpList_build' rfl 148 _ rfl R7 (partsI (rowR 7)) (by kernel_rfl) (unhide HB7r) ?_
            simp only [Act.put, List.setIfInBounds_toArray, List.set_cons_succ, List.set_cons_zero]
            refine wpList_build' rfl 149 _ rfl E67 [(0, .agg R0), (1, .agg R1), (2, .agg R2), (3, .agg R3), (4, .agg R4), (5, .agg R5), (6, .agg R6), (7, .agg R7)] (by kernel_rfl) (unhide HBB) ?_
            simp only [Act.put, List.setIfInBounds_toArray, List.set_cons_succ, List.set_cons_zero]
            refine wpList_plain rfl fun K hK => ?_
            go_simp
            refine hK _ _ ?_
            clear hK K
            refine wpList_store_new' rfl 149 _ _ rfl E67 gr hgr (by first | rfl | (rw [← hgr]; rfl)) rfl (by rw [z67, unhide HE67S]) (by rw [unhide HE67S, unhide HZ67]) (unhide HE67O) ?_
            refine wpList_nil ?_
            try rw [hgr]
            have HE67A : Hid ((wc.alloc (.cells E67 149)).heap[gr]? = some (.cells E67 149 (0, 0))) := hide ((unhide HR6).arr hE67)
            have HIX67 : Hid (∀ (k : Nat) (hk : k < 8) (w : World), (Instr.index 149 (.agg E67) (.int .i64 (k : Int))).run Tryd.prog w = .ok (.agg (i64v (rowR k)).toArray) w) := hide (hE67 ▸ idx67)
            have HE67E := hide hE67
            clear hE67
            generalize wc.alloc (.cells E67 149) = w6 at *
            go_wp2_with fail
            refine Calls.mono (orders_any _) ?_
            rintro e w7 ⟨rfl, b7⟩
            obtain ⟨EO, hEO⟩ : ∃ E, (i64v ords.flatten).toArray = E := ⟨_, rfl⟩
            rw [hEO]
            have HIX69 : Hid (∀ (k : Nat) (hk : k < 10) (w : World), (Instr.index 151 (.agg EO) (.int .i64 (k : Int))).run Tryd.prog w = .ok (.agg (i64v (ord k)).toArray) w) := hide (hEO ▸ idx69)
            have HR7 := hide ((unhide HR6).below b7 (unhide HR6).lt)
            have HV7 := hide ((unhide HV6).below b7 (unhide HV6).lt)
            have HM7 := hide ((unhide HM6).below b7 (unhide HM6).lt)
            have HH7 := hide ((unhide HH6).below b7 (unhide HH6).lt)
            have HT7 := hide ((unhide HT6).below b7 (unhide HT6).lt)
            have HB7 := hide ((unhide HB6).trans (b7.mono (unhide HB6).size))
            have HGR := hide hgr2
            clear b7 HR6 HV6 HM6 HH6 HT6 HB6 hEO hgr hgr2 HE67A
            have HMM : Hid ((wordsOf b 16).length = 16) := hide (wordsOf_len b 16)
            have HMM32 : Hid (W32 (wordsOf b 16)) := hide (wordsOf_32 (unhide H8) 16)
            have HFW : Hid (∀ i, i < 8 → (foldL h b n last).getD i 0 = h.getD i 0 ^^^ ((mixL (wordsOf b 16) 10 (spreadL h n last)).getD i 0 ^^^ (mixL (wordsOf b 16) 10 (spreadL h n last)).getD (i + 8) 0)) := hide (fun i hi => foldL_getD h b n last i hi)
            have HFL : Hid ((foldL h b n last).length = 8) := hide (foldL_len h b n last)
            generalize wordsOf b 16 = mm at *
            generalize spreadL h n last = sp at *
            obtain ⟨FF, hFF⟩ : ∃ x, foldL h b n last = x := ⟨_, rfl⟩
            rw [hFF] at HFW HFL
            have HFFE := hide hFF
            clear hFF
            go_wp2_with fail
            go_loopw [92] (fun s wr => ∃ k : Nat, k ≤ 10 ∧ s = .int .i64 (k : Int) ∧ Hid (RowAt wr gv 135 (u32v (mixL mm k sp)) ∧ Only (· = gv) w7 wr)) (fun s _ => (10 - intOf s).toNat)
            case atStart => exact ⟨0, by omega, rfl, unhide HV7, Only.refl _ _⟩
            case round =>
              obtain ⟨k, hk, rfl, HC⟩ := hrel
              by_cases hlt : k < 10
              · have hkI : (k : Int) < 10 := by omega
                have hix := fun w => unhide HIX69 k hlt w
                obtain ⟨O, hO⟩ : ∃ O, (i64v (ord k)).toArray = O := ⟨_, rfl⟩
                have HOS : Hid (O.size = 16) := hide (by rw [← hO, List.size_toArray, i64v_len, ord_len k hlt])
                have HO1 : Hid (O.all (·.oneCell') = true) := hide (hO ▸ one_i64 _)
                rw [hO] at hix
                obtain ⟨gk, hgk⟩ : ∃ x, wr.heap.size = x := ⟨_, rfl⟩
                have HRO : Hid (RowAt (wr.alloc (.cells O 150)) gk 150 (i64v (ord k))) := hide (by
                  have := RowAt.new wr 150 (i64v (ord k))
                  rw [hO, hgk] at this
                  exact this)
                obtain ⟨d1, d2⟩ := unhide HC
                have a8 : Only (· = gv) w7 (wr.alloc (.cells O 150)) := d2.alloc _
                have HV8 : Hid (RowAt (wr.alloc (.cells O 150)) gv 135 (u32v (mixL mm k sp))) := hide (d1.only (p := fun _ => False) ((Only.refl _ _).alloc _) id)
                have nr : ¬ gr = gv := by have := unhide HGR; have := unhide HGF; omega
                have HR8 := hide ((unhide HR7).only a8 nr)
                have HE8 : Hid ((wr.alloc (.cells O 150)).heap[gr]? = some (.cells E67 149 (0, 0))) := hide ((unhide HR8).arr (unhide HE67E))
                have HA8 := hide a8
                have HGK : Hid (gr < gk) := hide (by have := d2.size; have := (unhide HR7).lt; omega)
                have HOL := hide (ord_lt k hlt)
                have HOE := hide (ord_len k hlt)
                have HKK := hide hlt
                clear d1 d2 a8 hO HC
                go_wp2_with (first
                  | (refine wpList_store_new' rfl 150 _ _ rfl O gk hgk (by first | kernel_rfl | (rw [← hgk]; kernel_rfl)) (by kernel_rfl) (by rw [z68, unhide HOS]) (by rw [unhide HOS, unhide HZ68]) (unhide HO1) ?_)
                  | (refine wpList_load_row rfl 149 _ rfl gr (by kernel_rfl) 149 E67 (0, 0) _ (unhide HE8) Tryd.underlying149 rfl (by rw [z67, unhide HE67S]) ?_))
                clear hix HE8
                generalize wr.alloc (.cells O 150) = w8 at *
                obtain ⟨ok, hok⟩ : ∃ o, ord k = o := ⟨_, rfl⟩
                obtain ⟨lk, hlk⟩ : ∃ x, mixL mm k sp = x := ⟨_, rfl⟩
                have HE : Hid (mixL mm (k + 1) sp = eightL mm ok 8 lk) := hide (by rw [mixL_succ, hok, hlk])
                have HL : Hid (lk.length = 16) := hide (by rw [← hlk, mixL_len, unhide HSL])
                have HL32 : Hid (W32 lk) := hide (hlk ▸ mixL_32 mm (unhide HS32) k)
                rw [hok] at HOL HOE HRO
                rw [hlk] at HV8
                clear hok hlk
                try rw [hgk]
                go_loopw [96] (fun s wr => ∃ j : Nat, j ≤ 8 ∧ s = .int .i64 (j : Int) ∧ Hid (RowAt wr gv 135 (u32v (eightL mm ok j lk)) ∧ Only (· = gv) w8 wr)) (fun s _ => (8 - intOf s).toNat)
                case atStart => exact ⟨0, by omega, rfl, unhide HV8, Only.refl _ _⟩
                case round =>
                  obtain ⟨j, hj, rfl, HD⟩ := hrel
                  by_cases hjl : j < 8
                  · have hjI : (j : Int) < 8 := by omega
                    have hix := fun w => unhide HIX67 j hjl w
                    obtain ⟨ho1, ho2, ho3, ho4, ho5, ho6, ho7, ho8, ho9, ho10, ho11⟩ := rowR_ok j hjl
                    obtain ⟨Rj, hRj⟩ : ∃ O, (i64v (rowR j)).toArray = O := ⟨_, rfl⟩
                    have HJS : Hid (Rj.size = 4) := hide (by rw [← hRj, List.size_toArray, i64v_len, ho1])
                    have HJO : Hid (Rj.all (·.oneCell') = true) := hide (hRj ▸ one_i64 _)
                    rw [hRj] at hix
                    obtain ⟨gj, hgj⟩ : ∃ x, wr.heap.size = x := ⟨_, rfl⟩
                    have HRJ : RowAt (wr.alloc (.cells Rj 148)) gj 148 (i64v (rowR j)) := by
                      have := RowAt.new wr 148 (i64v (rowR j))
                      rw [hRj, hgj] at this
                      exact this
                    obtain ⟨d1, d2⟩ := unhide HD
                    have a9 : Only (· = gv) w8 (wr.alloc (.cells Rj 148)) := d2.alloc _
                    have V9 : RowAt (wr.alloc (.cells Rj 148)) gv 135 (u32v (eightL mm ok j lk)) := d1.only (p := fun _ => False) ((Only.refl _ _).alloc _) id
                    have O9 := (unhide HRO).only a9 (by have := unhide HGK; have := unhide HGR; have := unhide HGF; omega)
                    have M9 := (unhide HM7).only ((unhide HA8).trans a9) (by have := unhide HGV; omega)
                    have p0 := i64_cell HRJ 0 (by omega)
                    have p1 := i64_cell HRJ 1 (by omega)
                    have p2 := i64_cell HRJ 2 (by omega)
                    have p3 := i64_cell HRJ 3 (by omega)
                    have q0 := i64_cell O9 (2 * j) (by rw [unhide HOE]; omega)
                    have q1 := i64_cell O9 (2 * j + 1) (by rw [unhide HOE]; omega)
                    have y0l := unhide HOL (2 * j)
                    have y1l := unhide HOL (2 * j + 1)
                    have m0 := u32_cell M9 (ok.getD (2 * j) 0) (by rw [unhide HMM]; exact y0l)
                    have m1 := u32_cell M9 (ok.getD (2 * j + 1) 0) (by rw [unhide HMM]; exact y1l)
                    have HST := hide (fun wx => rstir_any ((rowR j).getD 0 0) ((rowR j).getD 1 0) ((rowR j).getD 2 0) ((rowR j).getD 3 0) (mm.getD (ok.getD (2 * j) 0) 0) (mm.getD (ok.getD (2 * j + 1) 0) 0) (eightL mm ok j lk) wx (by rw [eightL_len, unhide HL]) (eightL_32 mm ok (unhide HL32) j) ((unhide HMM32).getD _) ((unhide HMM32).getD _) ho2 ho3 ho4 ho5 ho6 ho7 ho8 ho9 ho10 ho11)
                    have HEE : Hid (eightL mm ok (j + 1) lk = stirL (eightL mm ok j lk) ((rowR j).getD 0 0) ((rowR j).getD 1 0) ((rowR j).getD 2 0) ((rowR j).getD 3 0) (mm.getD (ok.getD (2 * j) 0) 0) (mm.getD (ok.getD (2 * j + 1) 0) 0)) := hide rfl
                    rw [← unhide HEE] at HST
                    have HLE9 : Hid ((eightL mm ok (j + 1) lk).length = 16) := hide (by rw [eightL_len, unhide HL])
                    have HLE8 : Hid ((eightL mm ok j lk).length = 16) := hide (by rw [eightL_len, unhide HL])
                    generalize (rowR j).getD 0 0 = ra at *
                    generalize (rowR j).getD 1 0 = rb at *
                    generalize (rowR j).getD 2 0 = rc at *
                    generalize (rowR j).getD 3 0 = rd at *
                    generalize ok.getD (2 * j) 0 = y0 at *
                    generalize ok.getD (2 * j + 1) 0 = y1 at *
                    generalize mm.getD y0 0 = x0 at *
                    generalize mm.getD y1 0 = x1 at *
                    have z0 : (y0 : Int) < 16 := by omega
                    have z1 : (y1 : Int) < 16 := by omega
                    have j1 : 2 * (j : Int) < 16 := by omega
                    have j2 : 2 * (j : Int) + 1 < 16 := by omega
                    obtain ⟨E8, hE8⟩ : ∃ x, eightL mm ok j lk = x := ⟨_, rfl⟩
                    obtain ⟨E9, hE9⟩ : ∃ x, eightL mm ok (j + 1) lk = x := ⟨_, rfl⟩
                    rw [hE8] at V9 HST HLE8
                    rw [hE9] at HST HLE9
                    obtain ⟨A8, hA8⟩ : ∃ x, (u32v E8).toArray = x := ⟨_, rfl⟩
                    obtain ⟨A9, hA9⟩ : ∃ x, (u32v E9).toArray = x := ⟨_, rfl⟩
                    have HLD : Hid (∀ w', w' = (wr.alloc (.cells Rj 148)).drew → (loadVar 135 ⟨gv, 0, none⟩).run Tryd.prog w' = .ok (.agg A8) w') := hide (fun w' e => by
                      subst e
                      rw [← hA8]
                      exact run_loadVar_row _ gv 16 135 135 (u32v E8) _ V9.drew (by rw [u32v_len, unhide HLE8]) Tryd.underlying135 rfl z65)
                    rw [hA8, hA9] at HST
                    have HV9 := hide V9
                    have HA9o := hide a9
                    have HS9 : Hid (A9.size = 16) := hide (by rw [← hA9, List.size_toArray, u32v_len, unhide HLE9])
                    have HS8 : Hid (A8.size = 16) := hide (by rw [← hA8, List.size_toArray, u32v_len, unhide HLE8])
                    have HO9 : Hid (A9.all (·.oneCell') = true) := hide (hA9 ▸ one_u32 _)
                    have HEA8 := hide hA8
                    have HEA9 := hide hA9
                    have HE9E := hide hE9
                    have HJ := hide hjl
                    clear d1 d2 V9 a9 hRj O9 M9 HRJ HD hA8 hA9 hE8 hE9 HEE HLE8 HLE9 ho1 ho2 ho3 ho4 ho5 ho6 ho7 ho8 ho9 ho10 ho11 y0l y1l
                    go_wp2_with (refine wpList_store_new' rfl 148 _ _ rfl Rj gj hgj (by first | kernel_rfl | (rw [← hgj]; kernel_rfl)) (by kernel_rfl) (by rw [z66, unhide HJS]) (by rw [unhide HJS, unhide HZ66]) (unhide HJO) ?_)
                    try rw [hgj]
                    clear hix
                    generalize wr.alloc (.cells Rj 148) = w9 at *
                    refine wp_region_tail 22 (by kernel_rfl) (by kernel_rfl) ?_
                    simp only [List.take_succ_cons, List.take_zero, List.drop_succ_cons, List.drop_zero]
                    refine wpQuiet_load rfl 135 _ rfl ⟨gv, 0, none⟩ (by kernel_rfl) _ (unhide HLD) ?_
                    simp only [Act.put, List.setIfInBounds_toArray, List.set_cons_succ, List.set_cons_zero]
                    repeat (go_big_quiet_step (fail))
                    refine wpQuiet_nil ?_
                    clear p0 p1 p2 p3 q0 q1 m0 m1
                    go_wp2_with fail
                    refine Calls.mono (unhide HST _) ?_
                    rintro e w10 ⟨rfl, b10⟩
                    have V10 := (unhide HV9).drew.below b10 (unhide HV9).drew.lt
                    have HE10 := hide (V10.arr (unhide HEA8))
                    have V11 := V10.setRow (u32v E9)
                    rw [unhide HEA9] at V11
                    have O11 : Only (· = gv) w8 (w10.setRow gv A9) := ((unhide HA9o).drew.trans (Only.of_below b10)).setRow gv A9 rfl
                    have HF : Hid (RowAt (w10.setRow gv A9) gv 135 (u32v (eightL mm ok (j + 1) lk)) ∧ Only (· = gv) w8 (w10.setRow gv A9)) := hide ⟨by rw [unhide HE9E]; exact V11, O11⟩
                    clear b10 V10 V11 O11 HST HV9 HA9o HLD
                    go_wp2_with (refine wpList_store_row rfl 135 _ _ rfl gv A9 (by kernel_rfl) (by kernel_rfl) 135 A8 (unhide HE10) (by rw [z65, unhide HS9]) (by rw [unhide HS9, unhide HS8]) (unhide HO9) ?_)
                    go_roundw
                    case rel => exact ⟨j + 1, by have := unhide HJ; omega, by go_num, HF⟩
                    case measure => have := unhide HJ; simp [intOf]; omega
                  · have hjI : ¬ (j : Int) < 8 := by omega
                    obtain rfl : j = 8 := by omega
                    go_wp2_with fail
                    go_roundw
                    case rel => exact ⟨k + 1, by have := unhide HKK; omega, by go_num, by rw [unhide HE]; exact (unhide HD).1, (unhide HA8).trans (unhide HD).2⟩
                    case measure => have := unhide HKK; simp [intOf]; omega
              · have hkI : ¬ (k : Int) < 10 := by omega
                obtain rfl : k = 10 := by omega
                obtain ⟨d1, d2⟩ := unhide HC
                have HX := hide d1
                have HH8 := hide ((unhide HH7).only d2 (by have := unhide HGV; omega))
                have HT8 := hide ((unhide HT7).only d2 (by have := unhide HGV; omega))
                have HB8 := hide ((unhide HB7).trans (d2.below (unhide HB7).size (fun k hk => by have := unhide HG; have := unhide HGV; omega)))
                have HL6 : Hid ((mixL mm 10 sp).length = 16) := hide (by rw [mixL_len, unhide HSL])
                have H36 : Hid (W32 (mixL mm 10 sp)) := hide (mixL_32 _ (unhide HS32) 10)
                generalize mixL mm 10 sp = mx at *
                clear d1 d2 HC HIX67 HIX69
                go_wp2_with fail
                rename World => w9
                go_loopw [125] (fun s wr => ∃ k : Nat, k ≤ 8 ∧ s = .int .i64 (k : Int) ∧ Hid (RowAt wr g 126 (u32v (FF.take k ++ h.drop k)) ∧ Only (· = g) w9 wr)) (fun s _ => (8 - intOf s).toNat)
                case atStart => exact ⟨0, by omega, rfl, by simpa using unhide HH8, Only.refl _ _⟩
                case round =>
                  obtain ⟨k, hk, rfl, HC⟩ := hrel
                  by_cases hlt : k < 8
                  · have hkI : (k : Int) < 8 := by omega
                    have hkI8 : (k : Int) + 8 < 16 := by omega
                    have hkI16 : (k : Int) < 16 := by omega
                    obtain ⟨q1, q2, q3⟩ := step_set FF h k 8 (unhide HFL) (unhide HH) hlt
                    obtain ⟨d1, d2⟩ := unhide HC
                    have c0 := u32_cell d1 k (by rw [q3]; exact hlt)
                    rw [q2] at c0
                    have f0 := d1.frozen k
                    have X9 := (unhide HX).only d2 (by omega)
                    have c1 := u32_cell X9 k (by rw [unhide HL6]; omega)
                    have c2 := u32_cell X9 (k + 8) (by rw [unhide HL6]; omega)
                    have g0 := (unhide H32).getD k
                    have g1 := (unhide H36).getD k
                    have g2 := (unhide H36).getD (k + 8)
                    have e0 := unhide HFW k hlt
                    rw [← Nat.xor_assoc] at e0
                    generalize h.getD k 0 = x0 at *
                    generalize mx.getD k 0 = x1 at *
                    generalize mx.getD (k + 8) 0 = x2 at *
                    have t1 := u32_xor_nat x0 x1 g0 g1
                    have g3 := xor_lt g0 g1
                    generalize x0 ^^^ x1 = x3 at *
                    have t2 := u32_xor_nat x3 x2 g3 g2
                    generalize x3 ^^^ x2 = x4 at *
                    have HQ : Hid ((FF.take k ++ h.drop k).set k x4 = FF.take (k + 1) ++ h.drop (k + 1)) := hide (e0 ▸ q1)
                    have HD := hide d1
                    have HO := hide d2
                    have HLT := hide hlt
                    clear q1 q2 q3 e0 g0 g1 g2 g3 d1 d2 HC X9 hlt
                    go_wp2_with fail
                    refine wp_region_tail 13 (by kernel_rfl) (by kernel_rfl) ?_
                    simp only [List.take_succ_cons, List.take_zero, List.drop_succ_cons, List.drop_zero]
                    repeat (go_big_quiet_step (fail))
                    refine wpQuiet_nil ?_
                    go_wp2_with fail
                    go_roundw
                    case rel =>
                      have h1 := (unhide HD).set k (.int .u32 (x4 : Int))
                      rw [u32v_set, unhide HQ] at h1
                      exact ⟨k + 1, by have := unhide HLT; omega, by go_num, h1.drew, ((unhide HO).set g k _ rfl).drew⟩
                    case measure => have := unhide HLT; simp [intOf]; omega
                  · have hkI : ¬ (k : Int) < 8 := by omega
                    have hk8 : k = 8 := by omega
                    rw [hk8, List.drop_of_length_le (by rw [unhide HH]; omega), List.append_nil, List.take_of_length_le (by rw [unhide HFL]; omega)] at HC
                    obtain ⟨d1, d2⟩ := unhide HC
                    obtain ⟨E, hE⟩ : ∃ E, (u32v FF).toArray = E := ⟨_, rfl⟩
                    have HE1 := hide (d1.arr hE)
                    have HE2 := hide (((unhide HT8).only d2 (by omega)).arr (unhide HZE))
                    have HES : Hid (E.size = 8) := hide (by rw [← hE, List.size_toArray, u32v_len, unhide HFL])
                    have HEO : Hid (E.all (·.oneCell') = true) := hide (hE ▸ one_u32 _)
                    have HEE := hide hE
                    have HB9 := hide ((unhide HB8).trans (d2.below (unhide HB8).size (fun k hk => by have := unhide HG; omega)))
                    clear d1 d2 HC hE hk8 hk hlt HX HH8 HT8 HB8
                    go_upto_region 38 with fail
                    rename World => w9'
                    apply wp_region_lit
                    refine wpList_load_row rfl 126 _ rfl g (by kernel_rfl) 126 E (0, 0) _ (unhide HE1) Tryd.underlying126 rfl (by rw [z50, unhide HES]) ?_
                    simp only [Act.put, List.setIfInBounds_toArray, List.set_cons_succ, List.set_cons_zero]
                    refine wpList_store_row rfl 126 _ _ rfl (g + 1) E (by kernel_rfl) (by kernel_rfl) 126 Z (unhide HE2) (by rw [z50, unhide HES]) (by rw [unhide HES, unhide HZS]) (unhide HEO) ?_
                    have HE3 : Hid ((w9'.setRow (g + 1) E).heap[g + 1]? = some (.cells E 126 (0, 0))) := hide (setRow_heap _ _ _ _ _ _ (unhide HE2))
                    have HBE : Hid (Below w.heap.size w (w9'.setRow (g + 1) E)) := hide (Below.trans (unhide HB9) ⟨rfl, rfl, rfl, by simp [World.setRow], fun k hk => setRow_other _ _ _ _ (by have := unhide HG; omega)⟩)
                    generalize w9'.setRow (g + 1) E = wz at *
                    clear HE1 HE2 HB9
                    refine wpList_nil ?_
                    repeat (first | (go_big_may; go_says fail) | go_values | go_skip | go_guarded | go_step | go_upon)
                    refine bodyPost_ret (results_cell_row Tryd.results83 _ _ (g + 1) 126 E (0, 0) _ rfl (unhide HE3) Tryd.underlying126 rfl (by rw [z50, unhide HES])) rfl ⟨?_, ?_⟩
                    · rw [← unhide HEE, unhide HFFE]
                    · have hz9 := unhide HBE
                      (first | exact hz9 | (rw [unhide HG] at hz9; exact hz9))

end Go.Proofs.YtonkgiiacholeaaDoor
