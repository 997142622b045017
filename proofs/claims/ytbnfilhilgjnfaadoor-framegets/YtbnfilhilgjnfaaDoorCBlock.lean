/- A block of the cipher's stream. -/
import Derived.Test.YtbnfilhilgjnfaaDoorCMix
import Derived.Test.YtbnfilhilgjnfaaDoorWrite
import Derived.Test.YtbnfilhilgjnfaaDoorMix
import Derived.Deep.DeepCutAuto
namespace Go.Proofs.YtbnfilhilgjnfaaDoor
set_option linter.unusedVariables false
set_option linter.unusedSimpArgs false
open Go.ChangeShapes Go.WideShapes Go.ChangeAt Go.RowKit

theorem wpList_store_newc {P : Program} {ops : Array Oper} {rest : List Oper} {o : Oper} {a : Act} {w : World} {c : Array Value} {t : TypeId} {Q : Exit → Act → World → Prop} (hgd : o.guard = none) (ty : TypeId) (x y : Operand) (ho : o.op = .store ty x y)
    (cells : Array Value) (g : Nat) (hg : w.heap.size = g) (hx : a.eval x = .pointer (some ⟨g, 0, none⟩)) (hy : a.eval y = .agg cells) (hi : (P.info? ty).map (·.size) = some cells.size)
    (hold : c.size = cells.size) (h1 : cells.all (·.oneCell') = true)
    (h : wpList P ops Q rest (a.put o.dst undef) (w.alloc (.cells cells t))) : wpList P ops Q (o :: rest) a (w.alloc (.cells c t)) := by
  subst hg
  exact wpList_store_new hgd ty x y ho cells hx hy hi hold h1 h
theorem cstep_set (F h : List Nat) (k n : Nat) (hF : F.length = n) (hh : h.length = n) (hk : k < n) : (F.take k ++ h.drop k).set k (F.getD k 0) = F.take (k + 1) ++ h.drop (k + 1) ∧ (F.take k ++ h.drop k).getD k 0 = h.getD k 0 ∧ (F.take k ++ h.drop k).length = n := by
  have h1 : (F.take k).length = k := by simp; omega
  have h2 : h.drop k = h[k] :: h.drop (k + 1) := List.drop_eq_getElem_cons (by omega)
  refine ⟨?_, ?_, by simp; omega⟩
  · rw [List.set_append_right _ _ (by omega), h1, h2, Nat.sub_self, List.set_cons_zero, List.take_succ_eq_append_getElem (by omega), List.getD_eq_getElem?_getD, List.getElem?_eq_getElem (by omega)]
    simp only [Option.getD_some, List.append_assoc, List.cons_append, List.nil_append]
  · rw [List.getD_eq_getElem?_getD, List.getElem?_append_right (by omega), h1, Nat.sub_self, List.getElem?_drop, List.getD_eq_getElem?_getD]
    rfl
theorem csize_alloc (w : World) (o : Obj) : (w.alloc o).heap.size = w.heap.size + 1 := by simp
theorem RowAt.carr {w : World} {g : Nat} {t : TypeId} {cs : List Value} {S : Array Value} (h : RowAt w g t cs) (e : cs.toArray = S) : w.heap[g]? = some (.cells S t (0, 0)) := by subst e; exact h

def blkW (l : List Nat) (n : Nat) : List Nat := (l.set 12 (n % 4294967296)).set 13 (n / 4294967296)
theorem blkW_len (l : List Nat) (n : Nat) : (blkW l n).length = l.length := by simp [blkW]
theorem blkW_32 {l : List Nat} (h : W32 l) {n : Nat} (hn : n < 18446744073709551616) : W32 (blkW l n) := (h.set 12 (by omega)).set 13 (by omega)
def addL (x l : List Nat) : List Nat := (List.range 16).map fun i => add2 (x.getD i 0) (l.getD i 0)
theorem addL_len (x l : List Nat) : (addL x l).length = 16 := by simp [addL]
theorem addL_getD (x l : List Nat) (i : Nat) (hi : i < 16) : (addL x l).getD i 0 = add2 (x.getD i 0) (l.getD i 0) := by
  simp [addL, List.getD_eq_getElem?_getD, hi]
theorem addL_32 (x l : List Nat) : W32 (addL x l) := by
  intro y hy
  simp only [addL, List.mem_map] at hy
  obtain ⟨i, _, rfl⟩ := hy
  exact add2_lt _ _
def blockL (l : List Nat) (n : Nat) : List Nat := bytesOf (addL (cmixL 10 (blkW l n)) (blkW l n)) 16
theorem blockL_len (l : List Nat) (n : Nat) : (blockL l n).length = 64 := bytesOf_len _ _

theorem zw : (Tryd.prog.info? 112).map (·.size) = some 16 := by kernel_rfl
theorem zb64 : (Tryd.prog.info? 105).map (·.size) = some 64 := by kernel_rfl
theorem infow : (Tryd.prog.info? 112).map (·.zero) = some (some (.agg (u32v (List.replicate 16 0)).toArray)) := by kernel_rfl
theorem infob64 : (Tryd.prog.info? 105).map (·.zero) = some (some (.agg (bv (List.replicate 64 0)).toArray)) := by kernel_rfl
theorem zerow (w : World) : (zeroValue 112).run Tryd.prog w = .ok (.agg (u32v (List.replicate 16 0)).toArray) w := by
  have h := infow
  generalize (u32v (List.replicate 16 0)).toArray = Z at *
  cases hq : Tryd.prog.info? 112 with
  | none => simp [hq] at h
  | some i => simp [hq] at h; simp [zeroValue, typeInfo, hq, h]
theorem zerob64 (w : World) : (zeroValue 105).run Tryd.prog w = .ok (.agg (bv (List.replicate 64 0)).toArray) w := by
  have h := infob64
  generalize (bv (List.replicate 64 0)).toArray = Z at *
  cases hq : Tryd.prog.info? 105 with
  | none => simp [hq] at h
  | some i => simp [hq] at h; simp [zeroValue, typeInfo, hq, h]

set_option maxRecDepth 100000 in
set_option maxHeartbeats 4000000 in
theorem block_any (l : List Nat) (n : Nat) (w : World) (hl : l.length = 16) (h32 : W32 l) (hn : n < 18446744073709551616) :
    Calls Tryd.prog 77 #[.agg (u32v l).toArray, .int .u64 (n : Int)] w fun e w' => e = .returned (.agg (bv (blockL l n)).toArray) ∧ Below w.heap.size w w' := by
  have hz := zerow
  generalize hZ : (u32v (List.replicate 16 0)).toArray = Z at hz
  have HZS : Hid (Z.size = 16) := hide (by rw [← hZ]; rfl)
  have hy := zerob64
  generalize hY : (bv (List.replicate 64 0)).toArray = Y at hy
  have HYS : Hid (Y.size = 64) := hide (by rw [← hY, List.size_toArray, bv_len, List.length_replicate])
  have HYE := hide hY
  obtain ⟨L, hL⟩ : ∃ L, (u32v l).toArray = L := ⟨_, rfl⟩
  rw [hL]
  have hLs : L.size = 16 := by rw [← hL, List.size_toArray, u32v_len, hl]
  have HLS := hide hLs
  obtain ⟨n0, hn0⟩ : ∃ x, n % 4294967296 = x := ⟨_, rfl⟩
  obtain ⟨n1, hn1⟩ : ∃ x, n / 4294967296 = x := ⟨_, rfl⟩
  have e0 : (n : Int) % 4294967296 = (n0 : Int) := by omega
  have e1 : (n : Int) / 4294967296 = (n1 : Int) := by omega
  have e2 : (n1 : Int) % 4294967296 = (n1 : Int) := by omega
  obtain ⟨L2, hL2⟩ : ∃ L, (u32v (blkW l n)).toArray = L := ⟨_, rfl⟩
  have HLs : Hid ((L.setIfInBounds 12 (.int .u32 (n0 : Int))).setIfInBounds 13 (.int .u32 (n1 : Int)) = L2) := hide (by rw [← hL2, ← hL, blkW, hn0, hn1, ← u32v_set, ← u32v_set, List.setIfInBounds_toArray, List.setIfInBounds_toArray])
  have HW2 : Hid (W32 (blkW l n)) := hide (blkW_32 h32 hn)
  have HL2 : Hid ((blkW l n).length = 16) := hide (by rw [blkW_len, hl])
  have HBE : Hid (blockL l n = bytesOf (addL (cmixL 10 (blkW l n)) (blkW l n)) 16) := hide rfl
  have HL2E := hide hL2
  have HL2S : Hid (L2.size = 16) := hide (by rw [← hL2, List.size_toArray, u32v_len, unhide HL2])
  have HL2O : Hid (L2.all (·.oneCell') = true) := hide (hL2 ▸ one_u32 _)
  generalize blkW l n = W at *
  obtain ⟨g, hg⟩ : ∃ g, w.heap.size = g := ⟨_, rfl⟩
  have HG := hide hg
  have hL16 : 12 < L.size ∧ 13 < L.size := by omega
  have c1 : (12 : Int) < 16 := by omega
  clear hZ hY hL hL2 h32 hn0 hn1
  go_enter Tryd.func77, Tryd.ntmps77
  go_upto_region 2 with fail
  rw [unhide HLs]
  have R2 : RowAt ((w.alloc (.cells L2 112)).alloc (.cells Y 105)) g 112 (u32v W) := by
    have := RowAt.new w 112 (u32v W)
    rw [unhide HL2E, hg] at this
    exact this.only (p := fun _ => False) ((Only.refl _ _).alloc _) id
  have RT : RowAt ((w.alloc (.cells L2 112)).alloc (.cells Y 105)) (g + 1) 105 (bv (List.replicate 64 0)) := by
    have := RowAt.new (w.alloc (.cells L2 112)) 105 (bv (List.replicate 64 0))
    rw [unhide HYE, csize_alloc, hg] at this
    exact this
  have HB2 : Hid (Below w.heap.size w ((w.alloc (.cells L2 112)).alloc (.cells Y 105))) := hide (((Below.refl _ _).alloc (Nat.le_refl _) _).alloc (by rw [csize_alloc]; omega) _)
  have HS2 : Hid (((w.alloc (.cells L2 112)).alloc (.cells Y 105)).heap.size = g + 2) := hide (by rw [csize_alloc, csize_alloc, hg])
  have HR2 := hide R2
  have HRT := hide RT
  have HA2 := hide (R2.carr (unhide HL2E))
  clear R2 RT HLs
  generalize (w.alloc (.cells L2 112)).alloc (.cells Y 105) = w2 at *
  have hs2 : w2.heap.size = g + 2 := unhide HS2
  have R3 : RowAt (w2.alloc (.cells L2 112)) (g + 2) 112 (u32v W) := by
    have := RowAt.new w2 112 (u32v W)
    rw [unhide HL2E, hs2] at this
    exact this
  have b3 : Below w2.heap.size w2 (w2.alloc (.cells L2 112)) := (Below.refl _ _).alloc (Nat.le_refl _) _
  have HMX := hide (cmix_any (g + 2) W (w2.alloc (.cells L2 112)) (unhide HL2) (unhide HW2) R3)
  have HR3 := hide ((unhide HR2).below b3 (by omega))
  have HRT3 := hide ((unhide HRT).below b3 (by omega))
  have HB3 := hide ((unhide HB2).trans (b3.mono (unhide HB2).size))
  clear R3 b3 HR2 HRT HB2
  go_wp2_with (first
    | (refine wpList_load_row rfl 112 _ rfl g (by kernel_rfl) 112 L2 (0, 0) _ (unhide HA2) Tryd.underlying112 rfl (by rw [zw, unhide HL2S]) ?_)
    | (refine wpList_store_newc rfl 112 _ _ rfl L2 (g + 2) hs2 (by kernel_rfl) (by kernel_rfl) (by rw [zw, unhide HL2S]) (by rw [unhide HL2S, unhide HZS]) (unhide HL2O) ?_))
  generalize w2.alloc (.cells L2 112) = w3 at *
  refine Calls.mono (unhide HMX) ?_
  rintro e w4 ⟨rfl, r4, o4⟩
  have HR4 := hide r4
  have HW4 := hide ((unhide HR3).only o4 (by omega))
  have HT4 := hide ((unhide HRT3).only o4 (by omega))
  have HB4 := hide ((unhide HB3).trans (o4.below (unhide HB3).size (fun k hk => by have := unhide HG; omega)))
  have HS4 : Hid (g + 2 < w4.heap.size) := hide r4.lt
  have HXL : Hid ((cmixL 10 W).length = 16) := hide (by rw [cmixL_len, unhide HL2])
  have HX32 : Hid (W32 (cmixL 10 W)) := hide (cmixL_32 (unhide HW2) 10)
  generalize cmixL 10 W = X at *
  have HAL : Hid ((addL X W).length = 16) := hide (addL_len X W)
  have HAG : Hid (∀ i, i < 16 → (addL X W).getD i 0 = add2 (X.getD i 0) (W.getD i 0)) := hide (fun i hi => addL_getD X W i hi)
  have HA32 : Hid (W32 (addL X W)) := hide (addL_32 X W)
  generalize addL X W = A at *
  clear r4 o4 HMX HR3 HRT3 HB3 HA2
  go_wp2_with fail
  go_loopw [17] (fun s wr => ∃ k : Nat, k ≤ 16 ∧ s = .int .i64 (k : Int) ∧ Hid (RowAt wr (g + 2) 112 (u32v (A.take k ++ X.drop k)) ∧ Only (· = g + 2) w4 wr)) (fun s _ => (16 - intOf s).toNat)
  case atStart => exact ⟨0, by omega, rfl, by simpa using unhide HR4, Only.refl _ _⟩
  case round =>
    obtain ⟨k, hk, rfl, HC⟩ := hrel
    by_cases hlt : k < 16
    · have hkI : (k : Int) < 16 := by omega
      obtain ⟨q1, q2, q3⟩ := cstep_set A X k 16 (unhide HAL) (unhide HXL) hlt
      obtain ⟨d1, d2⟩ := unhide HC
      have c0 := u32_cell d1 k (by rw [q3]; exact hlt)
      rw [q2] at c0
      have f0 := d1.frozen k
      have c1' := u32_cell ((unhide HW4).only d2 (by omega)) k (by rw [unhide HL2]; exact hlt)
      have t0 := unhide HAG k hlt
      have g0 := (unhide HX32).getD k
      generalize X.getD k 0 = x0 at *
      generalize W.getD k 0 = x1 at *
      have t1 := add2_int x0 x1
      generalize add2 x0 x1 = x2 at *
      have HQ : Hid ((A.take k ++ X.drop k).set k x2 = A.take (k + 1) ++ X.drop (k + 1)) := hide (t0 ▸ q1)
      have HD := hide d1
      have HO := hide d2
      have HLT := hide hlt
      clear q1 q2 q3 t0 g0 d1 d2 HC hlt
      go_wp2_with fail
      refine wp_region_tail 7 (by kernel_rfl) (by kernel_rfl) ?_
      simp only [List.take_succ_cons, List.take_zero, List.drop_succ_cons, List.drop_zero]
      repeat (go_big_quiet_step (fail))
      refine wpQuiet_nil ?_
      go_wp2_with fail
      go_roundw
      case rel =>
        have h1 := (unhide HD).set k (.int .u32 (x2 : Int))
        rw [u32v_set, unhide HQ] at h1
        exact ⟨k + 1, by have := unhide HLT; omega, by go_num, h1.drew, ((unhide HO).set (g + 2) k _ rfl).drew⟩
      case measure => have := unhide HLT; simp [intOf]; omega
    · have hkI : ¬ (k : Int) < 16 := by omega
      have hk16 : k = 16 := by omega
      rw [hk16, List.drop_of_length_le (by rw [unhide HXL]; omega), List.append_nil, List.take_of_length_le (by rw [unhide HAL]; omega)] at HC
      obtain ⟨d1, d2⟩ := unhide HC
      obtain ⟨gb, hgb⟩ : ∃ x, wr.heap.size = x := ⟨_, rfl⟩
      have hgb2 : g + 2 < gb := by have := d2.size; have := unhide HS4; omega
      have b5 : Below wr.heap.size wr (wr.alloc (.cells Y 105)) := (Below.refl _ _).alloc (Nat.le_refl _) _
      have R5 : RowAt (wr.alloc (.cells Y 105)) gb 105 (bv (List.replicate 64 0)) := by
        have := RowAt.new wr 105 (bv (List.replicate 64 0))
        rw [unhide HYE, hgb] at this
        exact this
      have A5 := d1.below b5 d1.lt
      have T5 := ((unhide HT4).only d2 (by omega)).below b5 (by omega)
      have HWR := hide (write_any gb 0 16 64 (g + 2) 0 16 64 105 (bv (List.replicate 64 0)) A (wr.alloc (.cells Y 105)).drew R5.drew (by rw [bv_len, List.length_replicate]; omega) (by omega) (unhide HA32) (by omega) (by omega) (by omega) (by omega)
        (fun i hi => by rw [Nat.zero_add]; exact u32_cell A5.drew i (by rw [unhide HAL]; exact hi)))
      have HT5 := hide T5
      have HB5 := hide (((unhide HB4).trans (d2.below (unhide HB4).size (fun k hk => by have := unhide HG; omega))).trans (b5.mono (by have := unhide HG; omega)))
      have HGB := hide hgb2
      clear d1 d2 b5 R5 A5 T5 HC hk16 hlt hk HR4 HW4 HT4 HB4
      go_wp2_with fail
      generalize wr.alloc (.cells Y 105) = w5 at *
      refine wp_region_tail 2 (by kernel_rfl) (by kernel_rfl) ?_
      simp only [List.take_succ_cons, List.take_zero, List.drop_succ_cons, List.drop_zero]
      repeat (go_big_quiet_step (fail))
      refine wpQuiet_nil ?_
      go_wp2_with fail
      refine Calls.mono (unhide HWR) ?_
      rintro e w6 ⟨rfl, r6, o6⟩
      rw [putAt_whole _ _ (by rw [bv_len, bv_len, List.length_replicate, bytesOf_len])] at r6
      have o6' : Only (· = gb) w5 w6 := (Only.drew (Only.refl _ w5)).trans o6
      have T6 := (unhide HT5).only o6' (by omega)
      have HB6 := hide ((unhide HB5).trans (o6'.below (unhide HB5).size (fun k hk => by have := unhide HG; omega)))
      rw [← unhide HBE] at r6
      obtain ⟨E, hE⟩ : ∃ E, (bv (blockL l n)).toArray = E := ⟨_, rfl⟩
      have HE1 := hide (r6.carr hE)
      have HE2 := hide (T6.carr (unhide HYE))
      have HES : Hid (E.size = 64) := hide (by rw [← hE, List.size_toArray, bv_len, blockL_len])
      have HEO : Hid (E.all (·.oneCell') = true) := hide (hE ▸ one_bv _)
      have HEE := hide hE
      clear r6 o6 o6' T6 hE HWR HT5 HB5
      go_wp2_with (first
        | (refine wpList_load_row rfl 105 _ rfl gb (by kernel_rfl) 105 E (0, 0) _ (unhide HE1) Tryd.underlying105 rfl (by rw [zb64, unhide HES]) ?_)
        | (refine wpList_store_row rfl 105 _ _ rfl (g + 1) E (by kernel_rfl) (by kernel_rfl) 105 Y (unhide HE2) (by rw [zb64, unhide HES]) (by rw [unhide HES, unhide HYS]) (unhide HEO) ?_))
      refine bodyPost_ret (results_cell_row Tryd.results77 _ _ (g + 1) 105 E (0, 0) _ rfl (setRow_heap _ _ _ _ _ _ (unhide HE2)) Tryd.underlying105 rfl (by rw [zb64, unhide HES])) rfl ⟨?_, ?_⟩
      · rw [← unhide HEE]
      · have hb := Below.trans (unhide HB6) (⟨rfl, rfl, rfl, by simp [World.setRow], fun k hk => setRow_other _ _ _ _ (by have := unhide HG; omega)⟩ : Below w.heap.size w6 (w6.setRow (g + 1) E))
        (first | exact hb | (rw [unhide HG] at hb; exact hb))

end Go.Proofs.YtbnfilhilgjnfaaDoor
