/- The reference's block of the stream. -/
import Derived.Test.YthhpnakgiammiaaDoorCRef
import Derived.Test.YthhpnakgiammiaaDoorRefN
import Derived.Test.YthhpnakgiammiaaDoorRefE
import Derived.Test.YthhpnakgiammiaaDoorCTurn
import Derived.Deep.DeepCutAuto
namespace Go.Proofs.YthhpnakgiammiaaDoor
set_option linter.unusedVariables false
set_option linter.unusedSimpArgs false
open Go.ChangeShapes Go.WideShapes Go.ChangeAt Go.RowKit Go.Joins

/-- the words behind k whole ones of the key and j bytes of the next -/
def wPart (b : List Nat) (k j : Nat) : List Nat := firstC ++ (wordsOf b k ++ shr b k j :: List.replicate (11 - k) 0)
theorem firstC_len : firstC.length = 4 := rfl
theorem wPart_len (b : List Nat) (k j : Nat) (hk : k < 8) : (wPart b k j).length = 16 := by simp [wPart, wordsOf_len, firstC_len]; omega
theorem wPart_get (b : List Nat) (k j : Nat) : (wPart b k j).getD (4 + k) 0 = shr b k j := by
  rw [wPart, List.getD_eq_getElem?_getD, List.getElem?_append_right (by rw [firstC_len]; omega), firstC_len, show 4 + k - 4 = k by omega, List.getElem?_append_right (by rw [wordsOf_len]; omega), wordsOf_len, Nat.sub_self]
  rfl
theorem wPart_set (b : List Nat) (k j : Nat) : (wPart b k j).set (4 + k) (shr b k (j + 1)) = wPart b k (j + 1) := by
  rw [wPart, List.set_append_right _ _ (by rw [firstC_len]; omega), firstC_len, show 4 + k - 4 = k by omega, List.set_append_right _ _ (by rw [wordsOf_len]; omega), wordsOf_len, Nat.sub_self]
  rfl
def wAt (b : List Nat) (k : Nat) : List Nat := firstC ++ (wordsOf b k ++ List.replicate (12 - k) 0)
theorem wAt_part (b : List Nat) (k : Nat) (hk : k < 8) : wAt b k = wPart b k 0 := by
  rw [wAt, wPart, show 12 - k = (11 - k) + 1 by omega, List.replicate_succ]
  rfl
theorem wAt_succ {b : List Nat} (h : U8 b) (k : Nat) (hk : k < 8) : wPart b k 4 = wAt b (k + 1) := by
  rw [wPart, wAt, shr_4 h, wordsOf_succ, List.append_assoc, show 12 - (k + 1) = 11 - k by omega]
  rfl
theorem wAt_set (K : List Nat) (n once : Nat) :
    ((((wAt K 8).set 12 (n % 4294967296)).set 13 (n / 4294967296)).set 14 (once % 4294967296)).set 15 (once / 4294967296) = blkW (startL K once) n := by
  have e : wAt K 8 = firstC ++ wordsOf K 8 ++ List.replicate 4 0 := by rw [wAt, List.append_assoc]
  rw [e, blkW, startL]
  generalize firstC ++ wordsOf K 8 ++ List.replicate 4 0 = l
  rw [List.set_comm _ _ (show (15 : Nat) ≠ 12 by decide), List.set_comm _ _ (show (14 : Nat) ≠ 12 by decide), List.set_comm _ _ (show (15 : Nat) ≠ 13 by decide), List.set_comm _ _ (show (14 : Nat) ≠ 13 by decide)]
theorem wAt_len (K : List Nat) : (wAt K 8).length = 16 := by simp [wAt, wordsOf_len, firstC_len]
theorem bytes4_take (x j : Nat) (hj : j < 4) : (bytes4 x).take (j + 1) = (bytes4 x).take j ++ [xd x j % 256] := by
  rw [List.take_succ_eq_append_getElem (by rw [bytes4_len]; exact hj), ← bytes4_get x j hj, List.getD_eq_getElem?_getD, List.getElem?_eq_getElem (by rw [bytes4_len]; exact hj)]
  rfl
theorem own_base {w : World} {b b' n : Nat} {v : Value} {xs : List Value} (h : w.ownsRow b 5 1 v n xs) (hb : b' ≤ b) : w.ownsRow b' 5 1 v n xs := by
  obtain ⟨h1, h2⟩ := h
  refine ⟨h1, ?_⟩
  rcases h2 with h2 | ⟨g, cap, cur, e1, e2, e3⟩
  · exact .inl h2
  · exact .inr ⟨g, cap, cur, e1, Nat.le_trans hb e2, e3⟩
def partsC : List (Nat × Value) := [(0, .int .u32 1634760805), (1, .int .u32 857760878), (2, .int .u32 2036477234), (3, .int .u32 1797285236)]
theorem builtC : Tryd.prog.built 71 partsC = some (u32v (wAt [] 0)).toArray := by kernel_rfl
theorem w0_set : ((((List.replicate 16 0).set 0 1634760805).set 1 857760878).set 2 2036477234).set 3 1797285236 = firstC ++ List.replicate 12 0 := rfl

set_option maxRecDepth 100000 in
set_option maxHeartbeats 4000000 in
theorem rblock_any (kv : Value) (key : List Nat) (once n : Nat) (w : World) (hk : Byt w kv key) (hk8 : U8 key) (hkl : 32 ≤ key.length) (ho : once < 18446744073709551616) (hn : n ≤ 1000000000000) :
    Calls Tryd.prog 34 #[kv, .int .u64 (once : Int), .int .i64 (n : Int)] w
      fun e w' => ∃ v', e = .returned v' ∧ w'.ownsRow w.heap.size 5 1 v' 64 (bv (blockL (startL (key.take 32) once) n)) ∧ Below w.heap.size w w' := by
  obtain ⟨i0, hi, hz0, hz1, hz2⟩ := info_parts info5
  rcases hk with ⟨_, hnil⟩ | ⟨ad, cap, rfl, hv1, hv2, hv3⟩
  · rw [hnil] at hkl
    simp at hkl
  obtain ⟨kn, hkn⟩ : ∃ x, key.length = x := ⟨_, rfl⟩
  rw [hkn] at hv1 hkl ⊢
  have hknI : (32 : Int) ≤ (kn : Int) := by omega
  obtain ⟨K, hK⟩ : ∃ K, key.take 32 = K := ⟨_, rfl⟩
  rw [hK]
  have HKL : Hid (K.length = 32) := hide (by rw [← hK, List.length_take]; omega)
  have H8 : Hid (U8 K) := hide (hK ▸ u8_take hk8 32)
  have HV : Hid (∀ q, q < 32 → w.cell? (ad.add q) = some (.int .u8 ((K.getD q 0 : Nat) : Int))) := hide (fun q hq => by
    have h1 : K[q]? = key[q]? := by rw [← hK, List.getElem?_take_of_lt hq]
    have h2 : key[q]? = some (K.getD q 0) := by rw [List.getD_eq_getElem?_getD, h1, List.getElem?_eq_getElem (by omega)]; rfl
    exact hv3 q _ h2)
  have hy := zero65
  generalize hY : (u32v (List.replicate 16 0)).toArray = Y at hy
  have HYS : Hid (Y.size = 16) := hide (by rw [← hY]; rfl)
  have HYE := hide hY
  obtain ⟨g, hg⟩ : ∃ g, w.heap.size = g := ⟨_, rfl⟩
  have HG := hide hg
  have HAL : Hid (ad.block < g) := hide (by
    have := lt_of_cell (unhide HV 0 (by omega))
    rw [add_block] at this
    omega)
  clear hY hv3 hk8 hK
  obtain ⟨F, hF⟩ : ∃ F, (u32v (wAt K 0)).toArray = F := ⟨_, rfl⟩
  have HBL : Hid (Tryd.prog.built 71 partsC = some F) := hide (by rw [← hF]; exact builtC)
  have HFS : Hid (F.size = 16) := hide (by rw [← hF]; rfl)
  have HFO : Hid (F.all (·.oneCell') = true) := hide (hF ▸ one_u32 _)
  have HRW : Hid (RowAt (w.alloc (.cells F 71)) g 71 (u32v (wAt K 0))) := hide (by
    have := RowAt.new w 71 (u32v (wAt K 0))
    rw [hF, hg] at this
    exact this)
  have HB1 : Hid (Below w.heap.size w (w.alloc (.cells F 71))) := hide ((Below.refl _ _).alloc (Nat.le_refl _) _)
  have HS1 : Hid ((w.alloc (.cells F 71)).heap.size = g + 1) := hide (by rw [size_alloc, hg])
  clear hF
  go_enter Tryd.func34, Tryd.ntmps34
  go_wp2_with (first
    | (refine wpList_build' rfl 71 _ rfl F partsC (by kernel_rfl) (unhide HBL) ?_)
    | (refine wpList_store_new' rfl 71 _ _ rfl F g hg (by first | kernel_rfl | (rw [← hg]; kernel_rfl)) (by kernel_rfl) (by rw [z65, unhide HFS]) (by rw [unhide HFS, unhide HYS]) (unhide HFO) ?_))
  generalize w.alloc (.cells F 71) = w1 at *
  go_loopw [17] (fun s wr => ∃ k : Nat, k ≤ 8 ∧ s = .int .i64 (k : Int) ∧ Hid (RowAt wr g 71 (u32v (wAt K k)) ∧ Only (· = g) w1 wr)) (fun s _ => (8 - intOf s).toNat)
  case atStart => exact ⟨0, by omega, rfl, unhide HRW, Only.refl _ _⟩
  case round =>
    obtain ⟨k, hk, rfl, HC⟩ := hrel
    by_cases hlt : k < 8
    · have hkI : (k : Int) < 8 := by omega
      have HLT := hide hlt
      go_wp2_with fail
      go_loopw [20] (fun s wq => ∃ j : Nat, j ≤ 4 ∧ s = .int .i64 (j : Int) ∧ Hid (RowAt wq g 71 (u32v (wPart K k j)) ∧ Only (· = g) w1 wq)) (fun s _ => (4 - intOf s).toNat)
      case atStart => exact ⟨0, by omega, rfl, by rw [← wAt_part K k hlt]; exact (unhide HC).1, (unhide HC).2⟩
      case round =>
        obtain ⟨j, hj, rfl, HD⟩ := hrel
        by_cases hjl : j < 4
        · have hjI : (j : Int) < 4 := by omega
          obtain ⟨q, hq⟩ : ∃ q : Nat, 4 * k + j = q := ⟨_, rfl⟩
          have hqI : 4 * (k : Int) + (j : Int) = (q : Int) := by omega
          have hqN : q < 32 := by omega
          have hqK : (q : Int) < (kn : Int) := by omega
          obtain ⟨p, hp⟩ : ∃ p : Nat, 4 + k = p := ⟨_, rfl⟩
          have hpI : 4 + (k : Int) = (p : Int) := by omega
          have hp16 : (p : Int) < 16 := by omega
          obtain ⟨d1, d2⟩ := unhide HD
          have hkl' : p < (wPart K k j).length := by rw [wPart_len K k j hlt]; omega
          have c1 := u32_cell d1 p hkl'
          rw [← hp, wPart_get, hp] at c1
          have z1 := d1.frozen p
          have c2 := d2.cell (q := ad.add q) (by rw [add_block]; have := unhide HAL; omega) (cell_keep (unhide HB1) (by rw [add_block, unhide HG]; exact unhide HAL) (unhide HV q hqN))
          have hs : shr K k (j + 1) = shr K k j / 256 + K.getD q 0 * 16777216 := by rw [shr, hq]
          have l1 := shr_lt (unhide H8) k j
          have l2 := (unhide H8).getD q
          have HST : Hid ((wPart K k j).set p (shr K k (j + 1)) = wPart K k (j + 1)) := hide (hp ▸ wPart_set K k j)
          have HD1 := hide d1
          have HD2 := hide d2
          clear hkl' d1 d2 HD HC hp
          generalize shr K k (j + 1) = s1 at *
          generalize shr K k j = s0 at *
          generalize K.getD q 0 = y at *
          have e1 : ((s0 : Int) / 256 + (y : Int) * 16777216) % 4294967296 = (s1 : Int) := by omega
          have e2 : (y : Int) * 16777216 % 4294967296 = (y : Int) * 16777216 := by omega
          go_wp2_with fail
          refine wp_region_tail 17 (by kernel_rfl) (by kernel_rfl) ?_
          simp only [List.take_succ_cons, List.take_zero, List.drop_succ_cons, List.drop_zero]
          repeat (go_big_quiet_step (fail))
          refine wpQuiet_nil ?_
          go_wp2_with fail
          have e3 : ((s0 : Int) / 256 + (y : Int) * 16777216) = (s1 : Int) := by omega
          have HJ := hide hjl
          go_roundw
          case rel =>
            rw [e3]
            have r := (unhide HD1).set p (.int .u32 (s1 : Int))
            rw [u32v_set, unhide HST] at r
            exact ⟨j + 1, by have := unhide HJ; omega, by go_num, r.drew, ((unhide HD2).set g p _ rfl).drew⟩
          case measure => have := unhide HJ; simp [intOf]; omega
        · have hjI : ¬ (j : Int) < 4 := by omega
          obtain rfl : j = 4 := by omega
          go_wp2_with fail
          go_roundw
          case rel => exact ⟨k + 1, by have := unhide HLT; omega, by go_num, by rw [← wAt_succ (unhide H8) k (unhide HLT)]; exact (unhide HD).1, (unhide HD).2⟩
          case measure => have := unhide HLT; simp [intOf]; omega
    · have hkI : ¬ (k : Int) < 8 := by omega
      obtain rfl : k = 8 := by omega
      obtain ⟨m1, o1⟩ := unhide HC
      have c1 := u32_cell m1 12 (by rw [wAt_len]; omega)
      have c2 := u32_cell m1 13 (by rw [wAt_len]; omega)
      have c3 := u32_cell m1 14 (by rw [wAt_len]; omega)
      have c4 := u32_cell m1 15 (by rw [wAt_len]; omega)
      have z1 := m1.frozen 12
      have z2 := m1.frozen 13
      have z3 := m1.frozen 14
      have z4 := m1.frozen 15
      have r1 := (((m1.set 12 (.int .u32 ((n % 4294967296 : Nat) : Int))).set 13 (.int .u32 ((n / 4294967296 : Nat) : Int))).set 14 (.int .u32 ((once % 4294967296 : Nat) : Int))).set 15 (.int .u32 ((once / 4294967296 : Nat) : Int))
      rw [u32v_set, u32v_set, u32v_set, u32v_set, wAt_set] at r1
      have o2 := (((o1.set g 12 (.int .u32 ((n % 4294967296 : Nat) : Int)) rfl).set g 13 (.int .u32 ((n / 4294967296 : Nat) : Int)) rfl).set g 14 (.int .u32 ((once % 4294967296 : Nat) : Int)) rfl).set g 15 (.int .u32 ((once / 4294967296 : Nat) : Int)) rfl
      have e0 : (n : Int) % 4294967296 = ((n % 4294967296 : Nat) : Int) := by omega
      have e1 : (n : Int) / 4294967296 = ((n / 4294967296 : Nat) : Int) := by omega
      have e2 : ((n / 4294967296 : Nat) : Int) % 4294967296 = ((n / 4294967296 : Nat) : Int) := by omega
      have e3 : (once : Int) % 4294967296 = ((once % 4294967296 : Nat) : Int) := by omega
      have e4 : (once : Int) / 4294967296 = ((once / 4294967296 : Nat) : Int) := by omega
      have e5 : ((once / 4294967296 : Nat) : Int) % 4294967296 = ((once / 4294967296 : Nat) : Int) := by omega
      have e6 : (n : Int) % 18446744073709551616 = (n : Int) := by omega
      have HR1 := hide r1
      have HO2 := hide o2
      clear r1 o2 m1 o1 HC HRW
      generalize n % 4294967296 = N0 at *
      generalize n / 4294967296 = N1 at *
      generalize once % 4294967296 = O0 at *
      generalize once / 4294967296 = O1 at *
      go_upto_region 15 with fail
      have HBE : Hid (blockL (startL K once) n = bytesOf (addL (cmixL 10 (blkW (startL K once) n)) (blkW (startL K once) n)) 16) := hide rfl
      have HWL : Hid ((blkW (startL K once) n).length = 16) := hide (by rw [blkW_len, startL_len])
      have HW32 : Hid (W32 (blkW (startL K once) n)) := hide (blkW_32 (startL_32 (unhide H8) ho) (by omega))
      generalize blkW (startL K once) n = Wd at *
      generalize (((wr.setCell ⟨g, 12, none⟩ (.int .u32 (N0 : Int))).setCell ⟨g, 13, none⟩ (.int .u32 (N1 : Int))).setCell ⟨g, 14, none⟩ (.int .u32 (O0 : Int))).setCell ⟨g, 15, none⟩ (.int .u32 (O1 : Int)) = w2 at *
      clear c1 c2 c3 c4 z1 z2 z3 z4 e0 e1 e2 e3 e4 e5 e6
      obtain ⟨gx, hgx⟩ : ∃ x, w2.heap.size = x := ⟨_, rfl⟩
      have HGX : Hid (g < gx) := hide (by have := (unhide HR1).lt; omega)
      obtain ⟨E, hE⟩ : ∃ E, (u32v Wd).toArray = E := ⟨_, rfl⟩
      have HE1 := hide ((unhide HR1).arr hE)
      have HES : Hid (E.size = 16) := hide (by rw [← hE, List.size_toArray, u32v_len, unhide HWL])
      have HEO : Hid (E.all (·.oneCell') = true) := hide (hE ▸ one_u32 _)
      have b3 : Below w2.heap.size w2 (w2.alloc (.cells E 71)) := (Below.refl _ _).alloc (Nat.le_refl _) _
      have HX3 : Hid (RowAt (w2.alloc (.cells E 71)) gx 71 (u32v Wd)) := hide (by
        have := RowAt.new w2 71 (u32v Wd)
        rw [hE, hgx] at this
        exact this)
      have HW3 : Hid (RowAt (w2.alloc (.cells E 71)) g 71 (u32v Wd)) := hide ((unhide HR1).below b3 (unhide HR1).lt)
      have HB3 : Hid (Below w.heap.size w (w2.alloc (.cells E 71))) := hide (((unhide HB1).trans ((unhide HO2).below (unhide HB1).size (fun k hk => by have := unhide HG; omega))).trans (b3.mono (by have := unhide HG; have := unhide HGX; omega)))
      clear b3 hE HO2 HR1
      apply wp_region_lit
      refine wpList_load_row rfl 71 _ rfl g (by kernel_rfl) 71 E (0, 0) _ (unhide HE1) Tryd.underlying71 rfl (by rw [z65, unhide HES]) ?_
      simp only [Act.put, List.setIfInBounds_toArray, List.set_cons_succ, List.set_cons_zero]
      refine wpList_plain rfl fun Kp hKp => ?_
      go_simp
      refine hKp _ _ ?_
      clear hKp Kp
      refine wpList_store_new' rfl 71 _ _ rfl E gx hgx (by first | rfl | (rw [← hgx]; rfl)) rfl (by rw [z65, unhide HES]) (by rw [unhide HES, unhide HYS]) (unhide HEO) ?_
      refine wpList_nil ?_
      try rw [hgx]
      clear HE1
      generalize w2.alloc (.cells E 71) = w3 at *
      go_wp2_with fail
      go_loopw [62] (fun s wr => ∃ k : Nat, k ≤ 10 ∧ s = .int .i64 (k : Int) ∧ Hid (RowAt wr gx 71 (u32v (cmixL k Wd)) ∧ Only (· = gx) w3 wr)) (fun s _ => (10 - intOf s).toNat)
      case atStart => exact ⟨0, by omega, rfl, unhide HX3, Only.refl _ _⟩
      case round =>
        obtain ⟨k, hk, rfl, HC⟩ := hrel
        by_cases hlt : k < 10
        · have hkI : (k : Int) < 10 := by omega
          have HKK := hide hlt
          obtain ⟨X, hX⟩ : ∃ X, cmixL k Wd = X := ⟨_, rfl⟩
          have HXE := hide hX
          have HXL : Hid (X.length = 16) := hide (by rw [← hX, cmixL_len, unhide HWL])
          have HX32 : Hid (W32 X) := hide (hX ▸ cmixL_32 (unhide HW32) k)
          have HXS : Hid (True) := hide trivial
          rw [hX] at HC
          clear hX
          go_wp2_with fail
          go_loopw [64] (fun s wr => ∃ j : Nat, j ≤ 4 ∧ s = .int .i64 (j : Int) ∧ Hid (RowAt wr gx 71 (u32v (cdowns X j)) ∧ Only (· = gx) w3 wr)) (fun s _ => (4 - intOf s).toNat)
          case atStart => exact ⟨0, by omega, rfl, HC⟩
          case round =>
            obtain ⟨j, hj, rfl, HD⟩ := hrel
            by_cases hjl : j < 4
            · have hjI : (j : Int) < 4 := by omega
              obtain ⟨d1, d2⟩ := unhide HD
              obtain ⟨pb, hpb⟩ : ∃ p : Nat, 4 + j = p := ⟨_, rfl⟩
              obtain ⟨pc, hpc⟩ : ∃ p : Nat, 8 + j = p := ⟨_, rfl⟩
              obtain ⟨pd, hpd⟩ : ∃ p : Nat, 12 + j = p := ⟨_, rfl⟩
              have hpbI : 4 + (j : Int) = (pb : Int) := by omega
              have hpcI : 8 + (j : Int) = (pc : Int) := by omega
              have hpdI : 12 + (j : Int) = (pd : Int) := by omega
              have HLL8 : Hid ((cdowns X j).length = 16) := hide (by rw [cdowns_len, unhide HXL])
              have HQ := hide (fun wx => rquart_any j pb pc pd (cdowns X j) wx (unhide HLL8) (cdowns_32 (unhide HX32) j) (by omega) (by omega) (by omega) (by omega) (by omega) (by omega) (by omega) (by omega) (by omega) (by omega))
              have HEE : Hid (cdowns X (j + 1) = quartL (cdowns X j) j pb pc pd) := hide (by rw [cdowns, hpb, hpc, hpd])
              rw [← unhide HEE] at HQ
              have HLL9 : Hid ((cdowns X (j + 1)).length = 16) := hide (by rw [cdowns_len, unhide HXL])
              obtain ⟨E8, hE8⟩ : ∃ x, cdowns X j = x := ⟨_, rfl⟩
              obtain ⟨E9, hE9⟩ : ∃ x, cdowns X (j + 1) = x := ⟨_, rfl⟩
              rw [hE8] at d1 HQ HLL8
              rw [hE9] at HQ HLL9
              obtain ⟨A8, hA8⟩ : ∃ x, (u32v E8).toArray = x := ⟨_, rfl⟩
              obtain ⟨A9, hA9⟩ : ∃ x, (u32v E9).toArray = x := ⟨_, rfl⟩
              rw [hA8, hA9] at HQ
              have HR8 := hide (d1.arr hA8)
              have HV9 := hide d1
              have HO9 := hide d2
              have HS9 : Hid (A9.size = 16) := hide (by rw [← hA9, List.size_toArray, u32v_len, unhide HLL9])
              have HS8 : Hid (A8.size = 16) := hide (by rw [← hA8, List.size_toArray, u32v_len, unhide HLL8])
              have HA9o : Hid (A9.all (·.oneCell') = true) := hide (hA9 ▸ one_u32 _)
              have HEA8 := hide hA8
              have HEA9 := hide hA9
              have HE9E := hide hE9
              have HJ := hide hjl
              clear d1 d2 HD hA8 hA9 hE8 hE9 HEE HLL8 HLL9 hpb hpc hpd
              go_wp2_with (refine wpList_load_row rfl 71 _ rfl gx (by kernel_rfl) 71 A8 (0, 0) _ (unhide HR8) Tryd.underlying71 rfl (by rw [z65, unhide HS8]) ?_)
              refine Calls.mono (unhide HQ _) ?_
              rintro e w10 ⟨rfl, b10⟩
              have V10 := (unhide HV9).below b10 (unhide HV9).lt
              have HE10 := hide (V10.arr (unhide HEA8))
              have V11 := V10.setRow (u32v E9)
              rw [unhide HEA9] at V11
              have O11 : Only (· = gx) w3 (w10.setRow gx A9) := ((unhide HO9).trans (Only.of_below b10)).setRow gx A9 rfl
              have HF : Hid (RowAt (w10.setRow gx A9) gx 71 (u32v (cdowns X (j + 1))) ∧ Only (· = gx) w3 (w10.setRow gx A9)) := hide ⟨by rw [unhide HE9E]; exact V11, O11⟩
              clear b10 V10 V11 O11 HQ HV9 HO9 HR8
              go_wp2_with (refine wpList_store_row rfl 71 _ _ rfl gx A9 (by kernel_rfl) (by kernel_rfl) 71 A8 (unhide HE10) (by rw [z65, unhide HS9]) (by rw [unhide HS9, unhide HS8]) (unhide HA9o) ?_)
              go_roundw
              case rel => exact ⟨j + 1, by have := unhide HJ; omega, by go_num, HF⟩
              case measure => have := unhide HJ; simp [intOf]; omega
            · have hjI : ¬ (j : Int) < 4 := by omega
              obtain rfl : j = 4 := by omega
              have HXL2 : Hid ((cdowns X 4).length = 16) := hide (by rw [cdowns_len, unhide HXL])
              have HX322 : Hid (W32 (cdowns X 4)) := hide (cdowns_32 (unhide HX32) 4)
              have HXS2 : Hid (cmixL (k + 1) Wd = cacross (cdowns X 4) 4) := hide (by rw [cmixL, unhide HXE])
              clear HXL HX32 HXE HXS HC
              obtain ⟨X2, hX2⟩ : ∃ x, cdowns X 4 = x := ⟨_, rfl⟩
              rw [hX2] at HXL2 HX322 HXS2 HD
              clear hX2
              go_wp2_with fail
              go_loopw [77] (fun s wr => ∃ j : Nat, j ≤ 4 ∧ s = .int .i64 (j : Int) ∧ Hid (RowAt wr gx 71 (u32v (cacross X2 j)) ∧ Only (· = gx) w3 wr)) (fun s _ => (4 - intOf s).toNat)
              case atStart => exact ⟨0, by omega, rfl, HD⟩
              case round =>
                obtain ⟨j, hj, rfl, HD⟩ := hrel
                by_cases hjl : j < 4
                · have hjI : (j : Int) < 4 := by omega
                  obtain ⟨d1, d2⟩ := unhide HD
                  obtain ⟨pb, hpb⟩ : ∃ p : Nat, 4 + (j + 1) % 4 = p := ⟨_, rfl⟩
                  obtain ⟨pc, hpc⟩ : ∃ p : Nat, 8 + (j + 2) % 4 = p := ⟨_, rfl⟩
                  obtain ⟨pd, hpd⟩ : ∃ p : Nat, 12 + (j + 3) % 4 = p := ⟨_, rfl⟩
                  have hpbI : 4 + ((j : Int) + 1) % 4 = (pb : Int) := by omega
                  have hpcI : 8 + ((j : Int) + 2) % 4 = (pc : Int) := by omega
                  have hpdI : 12 + ((j : Int) + 3) % 4 = (pd : Int) := by omega
                  have t1 : Int.tmod ((j : Int) + 1) 4 = ((j : Int) + 1) % 4 := Int.tmod_eq_emod_of_nonneg (by omega)
                  have t2 : Int.tmod ((j : Int) + 2) 4 = ((j : Int) + 2) % 4 := Int.tmod_eq_emod_of_nonneg (by omega)
                  have t3 : Int.tmod ((j : Int) + 3) 4 = ((j : Int) + 3) % 4 := Int.tmod_eq_emod_of_nonneg (by omega)
                  have HLL8 : Hid ((cacross X2 j).length = 16) := hide (by rw [cacross_len, unhide HXL2])
                  have HQ := hide (fun wx => rquart_any j pb pc pd (cacross X2 j) wx (unhide HLL8) (cacross_32 (unhide HX322) j) (by omega) (by omega) (by omega) (by omega) (by omega) (by omega) (by omega) (by omega) (by omega) (by omega))
                  have HEE : Hid (cacross X2 (j + 1) = quartL (cacross X2 j) j pb pc pd) := hide (by rw [cacross, hpb, hpc, hpd])
                  rw [← unhide HEE] at HQ
                  have HLL9 : Hid ((cacross X2 (j + 1)).length = 16) := hide (by rw [cacross_len, unhide HXL2])
                  obtain ⟨E8, hE8⟩ : ∃ x, cacross X2 j = x := ⟨_, rfl⟩
                  obtain ⟨E9, hE9⟩ : ∃ x, cacross X2 (j + 1) = x := ⟨_, rfl⟩
                  rw [hE8] at d1 HQ HLL8
                  rw [hE9] at HQ HLL9
                  obtain ⟨A8, hA8⟩ : ∃ x, (u32v E8).toArray = x := ⟨_, rfl⟩
                  obtain ⟨A9, hA9⟩ : ∃ x, (u32v E9).toArray = x := ⟨_, rfl⟩
                  rw [hA8, hA9] at HQ
                  have HR8 := hide (d1.arr hA8)
                  have HV9 := hide d1
                  have HO9 := hide d2
                  have HS9 : Hid (A9.size = 16) := hide (by rw [← hA9, List.size_toArray, u32v_len, unhide HLL9])
                  have HS8 : Hid (A8.size = 16) := hide (by rw [← hA8, List.size_toArray, u32v_len, unhide HLL8])
                  have HA9o : Hid (A9.all (·.oneCell') = true) := hide (hA9 ▸ one_u32 _)
                  have HEA8 := hide hA8
                  have HEA9 := hide hA9
                  have HE9E := hide hE9
                  have HJ := hide hjl
                  clear d1 d2 HD hA8 hA9 hE8 hE9 HEE HLL8 HLL9 hpb hpc hpd
                  go_wp2_with (refine wpList_load_row rfl 71 _ rfl gx (by kernel_rfl) 71 A8 (0, 0) _ (unhide HR8) Tryd.underlying71 rfl (by rw [z65, unhide HS8]) ?_)
                  refine Calls.mono (unhide HQ _) ?_
                  rintro e w10 ⟨rfl, b10⟩
                  have V10 := (unhide HV9).below b10 (unhide HV9).lt
                  have HE10 := hide (V10.arr (unhide HEA8))
                  have V11 := V10.setRow (u32v E9)
                  rw [unhide HEA9] at V11
                  have O11 : Only (· = gx) w3 (w10.setRow gx A9) := ((unhide HO9).trans (Only.of_below b10)).setRow gx A9 rfl
                  have HF : Hid (RowAt (w10.setRow gx A9) gx 71 (u32v (cacross X2 (j + 1))) ∧ Only (· = gx) w3 (w10.setRow gx A9)) := hide ⟨by rw [unhide HE9E]; exact V11, O11⟩
                  clear b10 V10 V11 O11 HQ HV9 HO9 HR8
                  go_wp2_with (refine wpList_store_row rfl 71 _ _ rfl gx A9 (by kernel_rfl) (by kernel_rfl) 71 A8 (unhide HE10) (by rw [z65, unhide HS9]) (by rw [unhide HS9, unhide HS8]) (unhide HA9o) ?_)
                  go_roundw
                  case rel => exact ⟨j + 1, by have := unhide HJ; omega, by go_num, HF⟩
                  case measure => have := unhide HJ; simp [intOf]; omega
                · have hjI : ¬ (j : Int) < 4 := by omega
                  obtain rfl : j = 4 := by omega
                  go_wp2_with fail
                  go_roundw
                  case rel => exact ⟨k + 1, by have := unhide HKK; omega, by go_num, by rw [unhide HXS2]; exact HD⟩
                  case measure => have := unhide HKK; simp [intOf]; omega
        · have hkI : ¬ (k : Int) < 10 := by omega
          obtain rfl : k = 10 := by omega
          obtain ⟨x1, x2⟩ := unhide HC
          have HXR := hide x1
          have HWR := hide ((unhide HW3).only x2 (by have := unhide HGX; omega))
          have HB4 := hide ((unhide HB3).trans (x2.below (unhide HB3).size (fun k hk => by have := unhide HG; have := unhide HGX; omega)))
          have HXL : Hid ((cmixL 10 Wd).length = 16) := hide (by rw [cmixL_len, unhide HWL])
          have HX32 : Hid (W32 (cmixL 10 Wd)) := hide (cmixL_32 (unhide HW32) 10)
          generalize cmixL 10 Wd = X at *
          have HAG : Hid (∀ i, i < 16 → (addL X Wd).getD i 0 = add2 (X.getD i 0) (Wd.getD i 0)) := hide (fun i hi => addL_getD X Wd i hi)
          generalize addL X Wd = A at *
          clear x1 x2 HC HX3 HW3 HB3
          go_wp2_with fail
          rename World => w5
          obtain ⟨Bs, hBs⟩ : ∃ x, w5.heap.size = x := ⟨_, rfl⟩
          have HBS := hide hBs
          have HGB : Hid (g < Bs ∧ gx < Bs) := hide ⟨by have := (unhide HWR).lt; omega, by have := (unhide HXR).lt; omega⟩
          go_loopw [13, 97] (fun vo s wr => ∃ k : Nat, k ≤ 16 ∧ s = .int .i64 (k : Int) ∧ Hid (wr.ownsRow Bs 5 1 vo (4 * k) (bv (bytesOf A k)) ∧ Below Bs w5 wr)) (fun _ s _ => (16 - intOf s).toNat)
          case atStart => exact ⟨0, by omega, rfl, World.ownsRow_nil _ _ _ _, Below.refl _ _⟩
          case round =>
            obtain ⟨k, hk, rfl, HC⟩ := hrel
            by_cases hlt : k < 16
            · have hkI : (k : Int) < 16 := by omega
              have HKK := hide hlt
              obtain ⟨d1, d2⟩ := unhide HC
              have c1 := u32_cell ((unhide HXR).below d2 (unhide HGB).2) k (by rw [unhide HXL]; exact hlt)
              have c2 := u32_cell ((unhide HWR).below d2 (unhide HGB).1) k (by rw [unhide HWL]; exact hlt)
              have t0 := unhide HAG k hlt
              have HSC : Hid (bytesOf A (k + 1) = bytesOf A k ++ bytes4 (A.getD k 0)) := hide rfl
              have g0 := (unhide HX32).getD k
              have g1 := (unhide HW32).getD k
              generalize A.getD k 0 = av at *
              generalize X.getD k 0 = x0 at *
              generalize Wd.getD k 0 = x1 at *
              have t1 := add2_int x0 x1
              have t2 : av < 4294967296 := t0 ▸ add2_lt _ _
              rw [← t0] at t1
              have HT1 := hide t1
              clear d1 d2 t0 g0 g1
              go_wp2_with fail
              refine wp_region_tail 7 (by kernel_rfl) (by kernel_rfl) ?_
              simp only [List.take_succ_cons, List.take_zero, List.drop_succ_cons, List.drop_zero]
              repeat (go_big_quiet_step (fail))
              refine wpQuiet_nil ?_
              clear c1 c2 t1
              go_wp2_with fail
              rename World => w6
              have HD0 : Hid (w6.drew.ownsRow Bs 5 1 u13 (4 * k + 0) (bv (bytesOf A k ++ (bytes4 av).take 0)) ∧ Below Bs w5 w6.drew) := hide ⟨by have := (unhide HC).1.drew; simpa using this, (unhide HC).2.drew⟩
              go_loopw [13, 15, 107] (fun vo v s wr => ∃ j : Nat, j ≤ 4 ∧ s = .int .i64 (j : Int) ∧ v = .int .u32 ((xd av j : Nat) : Int) ∧ Hid (wr.ownsRow Bs 5 1 vo (4 * k + j) (bv (bytesOf A k ++ (bytes4 av).take j)) ∧ Below Bs w5 wr)) (fun _ _ s _ => (4 - intOf s).toNat)
              case atStart => exact ⟨0, by omega, rfl, by rw [xd_0, ← unhide HT1], HD0⟩
              case round =>
                obtain ⟨j, hj, rfl, rfl, HD⟩ := hrel
                by_cases hjl : j < 4
                · have hjI : (j : Int) < 4 := by omega
                  obtain ⟨d1, d2⟩ := unhide HD
                  have HTK := hide (bytes4_take av j hjl)
                  have hxs := xd_succ av j
                  have hxl := xd_lt t2 j
                  obtain ⟨y1, hy1⟩ : ∃ q, xd av (j + 1) = q := ⟨_, rfl⟩
                  rw [hy1] at hxs
                  have HY1 := hide hy1
                  clear hy1
                  generalize xd av j = y0 at *
                  obtain ⟨y2, hy2⟩ : ∃ q : Nat, y0 % 256 = q := ⟨_, rfl⟩
                  rw [hy2] at HTK
                  have t5 : (y0 : Int) % 256 = (y2 : Int) := by omega
                  have t6 : (y2 : Int) % 256 = (y2 : Int) := by omega
                  have t7 : (y0 : Int) / 256 = (y1 : Int) := by omega
                  have t3 : Int.tdiv (y0 : Int) 256 = (y1 : Int) := by rw [Int.tdiv_eq_ediv_of_nonneg (by omega)]; omega
                  have t4 : Int.tmod (y0 : Int) 256 = (y2 : Int) := by rw [Int.tmod_eq_emod_of_nonneg (by omega)]; omega
                  have t8 : (y1 : Int) % 4294967296 = (y1 : Int) := by omega
                  have t9 : (y2 : Int) % 4294967296 = (y2 : Int) := by omega
                  have hs7 := d2.size
                  rw [unhide HBS] at hs7
                  have HD2 := hide d2
                  have HJ := hide hjl
                  have HOW := hide d1
                  clear hxs hxl hy2 HD d2
                  go_wp2_with (at_builtin; refine wpList_append_own _ rfl _ _ 22 rfl Bs 5 i0 (.int .u8 0) 1 1 Tryd.underlying22 hi hz0 hz1 hz2 rfl (by decide) _ _ _ rfl (d1.alloc _) ⟨wr.heap.size, 0, none⟩ 1 1 [.int .u8 (y2 : Int)] rfl rfl ?c1 ?c2 ?c3 ?c4 ?c5 ?_)
                  case c1 =>
                    intro j x hj
                    match j, hj with
                    | 0, hj => simp at hj; subst hj; simp [Addr.add]
                  case c2 => intro x hx; simp at hx; subst hx; rfl
                  case c3 => unfold maxLen; omega
                  case c4 => omega
                  case c5 => simp; omega
                  intro v' w8 hown' hgrow _
                  have hb8 : Below Bs w5 w8 := ((unhide HD2).alloc hs7 _).grown hgrow (by simp; omega) (fun g hg => ((unhide HOW).lt g hg).1)
                  have HF : Hid (w8.ownsRow Bs 5 1 v' (4 * k + (j + 1)) (bv (bytesOf A k ++ (bytes4 av).take (j + 1))) ∧ Below Bs w5 w8) := hide ⟨own_cast hown' (by omega) (by rw [unhide HTK, ← List.append_assoc, bv_append (bytesOf A k ++ _)]; rfl), hb8⟩
                  clear hown' hgrow hb8 d1 HOW HD2
                  go_wp2_with fail
                  go_roundw
                  case rel => exact ⟨j + 1, by have := unhide HJ; omega, by go_num, by rw [unhide HY1], HF⟩
                  case measure => have := unhide HJ; simp [intOf]; omega
                · have hjI : ¬ (j : Int) < 4 := by omega
                  obtain rfl : j = 4 := by omega
                  have HF : Hid (wr.ownsRow Bs 5 1 u13 (4 * (k + 1)) (bv (bytesOf A (k + 1))) ∧ Below Bs w5 wr) := hide (by
                    obtain ⟨d1, d2⟩ := unhide HD
                    rw [List.take_of_length_le (by rw [bytes4_len]; omega), ← unhide HSC] at d1
                    exact ⟨own_cast d1 (by omega) rfl, d2⟩)
                  clear HD
                  go_wp2_with fail
                  go_roundw
                  case rel => exact ⟨k + 1, by have := unhide HKK; omega, by go_num, HF⟩
                  case measure => have := unhide HKK; simp [intOf]; omega
            · have hkI : ¬ (k : Int) < 16 := by omega
              obtain rfl : k = 16 := by omega
              obtain ⟨d1, d2⟩ := unhide HC
              have hwg : w.heap.size ≤ Bs := by have := (unhide HGB).1; have := unhide HG; omega
              have HF : Hid (wr.ownsRow w.heap.size 5 1 u13 64 (bv (bytesOf A 16)) ∧ Below w.heap.size w wr) := hide ⟨own_base d1 hwg, (unhide HB4).trans (d2.mono hwg)⟩
              clear d1 d2 HC
              go_wp2_with fail
              go_ret
              rw [unhide HBE]
              have hz := unhide HF
              (first | exact ⟨_, rfl, hz⟩ | (rw [unhide HG] at hz; exact ⟨_, rfl, hz⟩))
end Go.Proofs.YthhpnakgiammiaaDoor
