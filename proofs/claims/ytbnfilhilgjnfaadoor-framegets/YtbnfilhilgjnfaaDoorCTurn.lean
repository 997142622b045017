/- Bytes turned by a key's stream. -/
import Derived.Test.YtbnfilhilgjnfaaDoorCStart
import Derived.Test.YtbnfilhilgjnfaaDoorNew
import Derived.Deep.DeepCutAuto
import Derived.Deep.OwnRows
import Derived.Laws.OwnMore
namespace Go.Proofs.YtbnfilhilgjnfaaDoor
set_option linter.unusedVariables false
set_option linter.unusedSimpArgs false
open Go.ChangeShapes Go.WideShapes Go.ChangeAt Go.RowKit Go.Joins

/-- a slice made with room behind it -/
theorem wpList_make_lc {P : Program} (w : World) {ops : Array Oper} {rest : List Oper} {o : Oper} {a : Act} {Q : Exit → Act → World → Prop}
    (hg : o.guard = none) (l c : Operand) (t : TypeId) (hop : o.op = Op.makeSlice t l c)
    (e : TypeId) (i : TypeInfo) (z : Value) (ht : P.underlying t = some (.slice e)) (hi : P.info? e = some i) (hz : i.zero = some z) (hsize : i.size = 1) (hz1 : z.cells = #[z])
    (kl kc : IntKind) (n m : Nat) (hl : a.eval l = .int kl (n : Int)) (hc : a.eval c = .int kc (m : Int)) (hnm : n ≤ m) (hbytes : i.bytes * m ≤ 281474976710656) (h63 : m ≤ 9223372036854775807)
    (hK : wpList P ops Q rest (a.put o.dst (.slice (some ⟨w.heap.size, 0, none⟩) n m)) (w.alloc (.cells (madeCells #[z] m) e))) :
    wpList P ops Q (o :: rest) a w := by
  refine wpList_plain hg fun K hK' => ?_
  have hb' : (i.bytes : Int) * (m : Int) ≤ 281474976710656 := by
    have h : ((i.bytes * m : Nat) : Int) ≤ 281474976710656 := by omega
    rwa [Int.natCast_mul] at h
  have hrun := run_make (P := P) w t e i z ht hi hz kl kc n m (by omega) (by omega) hb' (by omega)
  simp only [Int.toNat_natCast, hsize, Nat.mul_one, hz1] at hrun
  unfold Oper.wp
  simp [execOp, hop, hl, hc, hrun, Result.andThen]
  exact hK' _ _ hK
theorem made_list (n : Nat) : (madeCells #[Value.int .u8 0] n).toList = bv (List.replicate n 0) := by
  rw [toList_madeCells_one]; simp [bv]
theorem cbv_set (l : List Nat) (i x : Nat) : (bv l).set i (.int .u8 (x : Int)) = bv (l.set i x) := by simp [bv, List.map_set]

def turnW (W b : List Nat) (i : Nat) : Nat := b.getD i 0 ^^^ (blockL W (i / 64)).getD (i % 64) 0
def turnL (W b : List Nat) : List Nat := (List.range b.length).map (turnW W b)
theorem turnL_len (W b : List Nat) : (turnL W b).length = b.length := by simp [turnL]
theorem turnL_getD (W b : List Nat) (i : Nat) (hi : i < b.length) : (turnL W b).getD i 0 = turnW W b i := by
  simp [turnL, List.getD_eq_getElem?_getD, hi]
theorem blockL_8 (l : List Nat) (n : Nat) : U8 (blockL l n) := bytesOf_8 _ _
theorem turnW_lt {W b : List Nat} (h : U8 b) (i : Nat) : turnW W b i < 256 := Nat.xor_lt_two_pow (n := 8) (h.getD i) ((blockL_8 W (i / 64)).getD _)
theorem turnL_8 {W b : List Nat} (h : U8 b) : U8 (turnL W b) := by
  intro y hy
  simp only [turnL, List.mem_map] at hy
  obtain ⟨i, _, rfl⟩ := hy
  exact turnW_lt h i
/-- what lies there when so many are turned -/
def tAt (T : List Nat) (n more m : Nat) : List Nat := T.take m ++ List.replicate (n + more - m) 0
theorem tAt_len (T : List Nat) (n more m : Nat) (hT : T.length = n) (hm : m ≤ n) : (tAt T n more m).length = n + more := by simp [tAt]; omega
theorem tAt_set (T : List Nat) (n more m : Nat) (hT : T.length = n) (hm : m < n) : (tAt T n more m).set m (T.getD m 0) = tAt T n more (m + 1) := by
  have h1 : (T.take m).length = m := by simp; omega
  rw [tAt, tAt, List.set_append_right _ _ (by omega), h1, Nat.sub_self, show n + more - m = (n + more - (m + 1)) + 1 by omega, List.replicate_succ, List.set_cons_zero, List.take_succ_eq_append_getElem (by omega), List.getD_eq_getElem?_getD, List.getElem?_eq_getElem (by omega), List.append_assoc]
  rfl
theorem tAt_0 (T : List Nat) (n more : Nat) : tAt T n more 0 = List.replicate (n + more) 0 := by simp [tAt]
theorem tAt_end (T : List Nat) (n more : Nat) (hT : T.length = n) : tAt T n more n = T ++ List.replicate more 0 := by
  rw [tAt, List.take_of_length_le (by omega), show n + more - n = more by omega]

theorem zk32' : (Tryd.prog.info? 89).map (·.zero) = some (some (.agg (bv (List.replicate 32 0)).toArray)) := by kernel_rfl
theorem zerok (w : World) : (zeroValue 89).run Tryd.prog w = .ok (.agg (bv (List.replicate 32 0)).toArray) w := by
  have h := zk32'
  generalize (bv (List.replicate 32 0)).toArray = Z at *
  cases hq : Tryd.prog.info? 89 with
  | none => simp [hq] at h
  | some i => simp [hq] at h; simp [zeroValue, typeInfo, hq, h]
theorem z5c : (Tryd.prog.info? 5).map (·.size) = some 1 := by kernel_rfl
theorem one_bv'' {l : List Nat} {v : Value} (h : v ∈ bv l) : v.oneCell' = true := bv_one l v h

set_option maxRecDepth 100000 in
set_option maxHeartbeats 8000000 in
theorem turned_any (kv uv : Value) (key b : List Nat) (once more : Nat) (w : World) (hT : CTab w) (hk : Byt w kv key) (hb : Byt w uv b) (hk8 : U8 key) (hb8 : U8 b) (hkl : 32 ≤ key.length) (hbl : b.length ≤ 1000000) (hm : more ≤ 1000) (ho : once < 18446744073709551616) :
    Calls Tryd.prog 62 #[kv, .int .u64 (once : Int), uv, .int .i64 (more : Int)] w
      fun e w' => ∃ g, e = .returned (.slice (some ⟨g, 0, none⟩) b.length (b.length + more)) ∧ w.heap.size ≤ g ∧ RowAt w' g 5 (bv (turnL (startL (key.take 32) once) b ++ List.replicate more 0)) ∧ Below w.heap.size w w' := by
  obtain ⟨i0, hi, hz0, hz1, hz2⟩ := info_parts info5
  have HKY := hide hk
  have HBY := hide hb
  have HB8 := hide hb8
  have HT := hide hT
  obtain ⟨ba, bc, hbe⟩ := byt_shape hb
  obtain ⟨bn, hbn⟩ : ∃ x, b.length = x := ⟨_, rfl⟩
  rw [hbn] at hbe
  rw [hbn]
  subst hbe
  have HBN := hide hbn
  have hz := zerow
  generalize hZ : (u32v (List.replicate 16 0)).toArray = Z at hz
  have HZS : Hid (Z.size = 16) := hide (by rw [← hZ]; rfl)
  have hx := zerob64
  generalize hX : (bv (List.replicate 64 0)).toArray = X at hx
  have HXS : Hid (X.size = 64) := hide (by rw [← hX, List.size_toArray, bv_len, List.length_replicate])
  have hy := zerok
  generalize hY : (bv (List.replicate 32 0)).toArray = Y at hy
  have hbl' : bn ≤ 1000000 := by omega
  obtain ⟨g, hg⟩ : ∃ g, w.heap.size = g := ⟨_, rfl⟩
  have HG := hide hg
  have b1 : Below w.heap.size w (w.alloc (.cells Y 89)) := (Below.refl _ _).alloc (Nat.le_refl _) _
  have R1 : RowAt (w.alloc (.cells Y 89)) g 89 (bv (List.replicate 32 0)) := by
    have := RowAt.new w 89 (bv (List.replicate 32 0))
    rw [hY, hg] at this
    exact this
  obtain ⟨ka, kc, kn, rfl, hkn⟩ : ∃ ka kc kn, kv = .slice (some ka) kn kc ∧ key.length = kn := by
    rcases hk with ⟨h1, h2⟩ | ⟨a, c, h1, _⟩
    · rw [h2] at hkl; simp at hkl
    · exact ⟨a, c, _, h1, rfl⟩
  have K1 := (unhide HKY).call b1
  obtain ⟨K, hK⟩ : ∃ x, key.take 32 = x := ⟨_, rfl⟩
  have hKl : K.length = 32 := by rw [← hK, List.length_take]; omega
  have hcopy : ∀ ty, (Builtin.copy_ #[30, 30] ty #[.slice (some ⟨g, 0, none⟩) 32 32, .slice (some ka) kn kc]).run Tryd.prog (w.alloc (.cells Y 89)) = .ok (goInt (bv K).length) ((w.alloc (.cells Y 89)).setCells g 0 (bv K)) := fun ty =>
    run_copy_cells (w.alloc (.cells Y 89)) 30 30 ty 5 g 0 32 32 ka kn kc (bv K) Tryd.underlying30 z5c (by rw [bv_len, hKl]; exact (Nat.min_eq_right (by omega)).symm)
      (fun i u hi => by
        rw [bv, List.getElem?_map] at hi
        obtain ⟨y, hy, rfl⟩ := Option.map_eq_some_iff.1 hi
        rw [← hK, List.getElem?_take] at hy
        split at hy
        · rcases K1 with ⟨h1, _⟩ | ⟨a', c', h1, _, _, h4⟩
          · cases h1
          · injection h1 with e1 _ _
            injection e1 with e1
            subst e1
            exact h4 i y hy
        · cases hy)
      (fun i hi => by rw [Nat.zero_add, R1.cell, List.getElem?_eq_getElem (by rw [bv_len, hKl] at hi; rw [bv_len, List.length_replicate]; exact hi)]; rfl)
      (fun i hi => R1.frozen _) (fun u hu => bv_one _ _ hu)
  obtain ⟨c1, c2⟩ := RowAt.setCells (bv K) 0 _ _ R1 (by rw [bv_len, bv_len, hKl, List.length_replicate]; omega)
  rw [putAt_whole _ _ (by rw [bv_len, bv_len, hKl, List.length_replicate])] at c1
  have hgo : goInt (bv K).length = .int .i64 32 := by rw [bv_len, hKl]; rfl
  rw [hgo] at hcopy
  have HB2 := hide (b1.trans (c2.below b1.size (fun k hk => by omega)))
  obtain ⟨KA, hKA⟩ : ∃ x, (bv K).toArray = x := ⟨_, rfl⟩
  have HKA := hide (c1.carr hKA)
  have HKS : Hid (KA.size = 32) := hide (by rw [← hKA, List.size_toArray, bv_len, hKl])
  have HK8 : Hid (U8 K) := hide (fun y hy => hk8 y (List.mem_of_mem_take (hK ▸ hy)))
  have HST := hide (cstart_any K once ((w.alloc (.cells Y 89)).setCells g 0 (bv K)) (Tab.below hT (unhide HB2) (Tab.lt hT)) hKl (unhide HK8) ho)
  rw [hKA] at HST
  have HHO := hide ho
  have HKE := hide hK
  clear hZ hX hY hk hb hb8 hT hbn hbl b1 R1 K1 c1 c2 hKA hk8 hK hKl hgo
  generalize hw2 : (w.alloc (.cells Y 89)).setCells g 0 (bv K) = w2 at *
  clear hw2
  go_enter Tryd.func62, Tryd.ntmps62
  go_wp2_with (refine wpList_load_row rfl 89 _ rfl g (by kernel_rfl) 89 KA (0, 0) _ (unhide HKA) Tryd.underlying89 rfl (by rw [zk32, unhide HKS]) ?_)
  refine Calls.mono (unhide HST) ?_
  rintro e w3 ⟨rfl, b3⟩
  obtain ⟨Wd, hWd⟩ : ∃ x, startL K once = x := ⟨_, rfl⟩
  have HWL : Hid (Wd.length = 16) := hide (hWd ▸ startL_len K once)
  have HW32 : Hid (W32 Wd) := hide (hWd ▸ startL_32 (unhide HK8) (unhide HHO))
  have HWE := hide hWd
  rw [hWd]
  obtain ⟨SA, hSA⟩ : ∃ x, (u32v Wd).toArray = x := ⟨_, rfl⟩
  rw [hSA]
  have HSS : Hid (SA.size = 16) := hide (by rw [← hSA, List.size_toArray, u32v_len, unhide HWL])
  have HSO : Hid (SA.all (·.oneCell') = true) := hide (hSA ▸ one_u32 _)
  have HSE := hide hSA
  obtain ⟨gw, hgw⟩ : ∃ x, w3.heap.size = x := ⟨_, rfl⟩
  obtain ⟨bm, hbm⟩ : ∃ x, bn + more = x := ⟨_, rfl⟩
  have ebm : (bn : Int) + (more : Int) = (bm : Int) := by omega
  obtain ⟨T, hTT⟩ : ∃ x, turnL Wd b = x := ⟨_, rfl⟩
  have HTL : Hid (T.length = bn) := hide (by rw [← hTT, turnL_len, unhide HBN])
  have HTG : Hid (∀ i, i < bn → T.getD i 0 = turnW Wd b i) := hide (fun i hi => by rw [← hTT]; exact turnL_getD Wd b i (by rw [unhide HBN]; exact hi))
  have HTE := hide hTT
  have B3 := (unhide HB2).trans (b3.mono (unhide HB2).size)
  have R4 : RowAt (w3.alloc (.cells SA 112)) gw 112 (u32v Wd) := by
    have := RowAt.new w3 112 (u32v Wd)
    rw [hSA, hgw] at this
    exact this
  have hs4 : (w3.alloc (.cells SA 112)).heap.size = gw + 1 := by rw [csize_alloc, hgw]
  have B4 := B3.alloc B3.size (.cells SA 112)
  have R5 : RowAt ((w3.alloc (.cells SA 112)).alloc (.cells (madeCells #[.int .u8 0] bm) 5)) (gw + 1) 5 (bv (tAt T bn more (min 0 bn))) := by
    have := RowAt.new (w3.alloc (.cells SA 112)) 5 (bv (List.replicate bm 0))
    have e : (bv (List.replicate bm 0)).toArray = madeCells #[.int .u8 0] bm := by rw [← made_list]
    rw [hs4, e] at this
    rw [Nat.zero_min, tAt_0, hbm]
    exact this
  have HB5 := hide (B4.alloc B4.size (.cells (madeCells #[.int .u8 0] bm) 5))
  have HR5 := hide R5
  have HW5 : Hid (RowAt ((w3.alloc (.cells SA 112)).alloc (.cells (madeCells #[.int .u8 0] bm) 5)) gw 112 (u32v Wd)) := hide (R4.only (p := fun _ => False) ((Only.refl _ _).alloc _) id)
  have HGW : Hid (w.heap.size ≤ gw) := hide (by have := B3.size; omega)
  have HS4 := hide hs4
  clear b3 B3 B4 R4 R5 hWd hSA hTT HST HB2 HKA
  go_wp2_with (first
    | (refine wpList_store_newc rfl 112 _ _ rfl SA gw hgw (by kernel_rfl) (by kernel_rfl) (by rw [zw, unhide HSS]) (by rw [unhide HSS, unhide HZS]) (unhide HSO) ?_)
    | (refine wpList_make_lc _ rfl _ _ 30 rfl 5 i0 (.int .u8 0) Tryd.underlying30 hi hz0 hz1 rfl .i64 .i64 bn bm rfl rfl (by omega) (by rw [hz2]; omega) (by omega) ?_))
  try rw [hs4]
  generalize (w3.alloc (.cells SA 112)).alloc (.cells (madeCells #[.int .u8 0] bm) 5) = w5 at *
  clear hs4
  obtain ⟨go, hgo⟩ : ∃ x, gw + 1 = x := ⟨_, rfl⟩
  rw [hgo] at HR5 ⊢
  have HGO := hide hgo
  clear hgo hbm
  go_loopw [12] (fun s wr => ∃ a : Nat, s = .int .i64 (a : Int) ∧ a ≤ bn + 63 ∧ Hid (a % 64 = 0 ∧ RowAt wr go 5 (bv (tAt T bn more (min a bn))) ∧ Only (· = go) w5 wr)) (fun s _ => (bn - intOf s).toNat)
  case atStart => exact ⟨0, rfl, by omega, by omega, unhide HR5, Only.refl _ _⟩
  case round =>
    obtain ⟨a, rfl, ha63, HC⟩ := hrel
    rename World => wo
    by_cases hlt : a < bn
    · have haI : (a : Int) < (bn : Int) := by omega
      obtain ⟨d0, d1, d2⟩ := unhide HC
      rw [Nat.min_eq_left (by omega)] at d1
      obtain ⟨q, hq⟩ : ∃ x, a / 64 = x := ⟨_, rfl⟩
      have eq1 : Int.tdiv (a : Int) 64 = (q : Int) := by rw [Int.tdiv_eq_ediv_of_nonneg (by omega)]; omega
      have eq2 : (a : Int) / 64 = (q : Int) := by omega
      have eq3 : (q : Int) % 18446744073709551616 = (q : Int) := by omega
      obtain ⟨r, hr⟩ : ∃ x, bn - a = x := ⟨_, rfl⟩
      have er : (bn : Int) - (a : Int) = (r : Int) := by omega
      obtain ⟨M, hM⟩ : ∃ x, min 64 r = x := ⟨_, rfl⟩
      have eM : min (64 : Int) (r : Int) = (M : Int) := by omega
      have HBK := hide (block_any Wd q wo (unhide HWL) (unhide HW32) (by omega))
      have HWA := hide (((unhide HW5).only d2 (by have := unhide HGO; omega)).carr (unhide HSE))
      obtain ⟨hb, hhb⟩ : ∃ x, blockL Wd q = x := ⟨_, rfl⟩
      have HHL : Hid (hb.length = 64) := hide (hhb ▸ blockL_len Wd q)
      have HH8 : Hid (U8 hb) := hide (hhb ▸ blockL_8 Wd q)
      have HHE := hide hhb
      rw [hhb, unhide HSE] at HBK
      have HQ := hide hq
      have HMM : Hid (min 64 (bn - a) = M) := hide (by rw [hr]; exact hM)
      have HD0 := hide d0
      have HD1 := hide d1
      have HD2 := hide d2
      have HLT := hide hlt
      have hMb : M ≤ 64 ∧ a + M ≤ bn := by omega
      have HMB := hide hMb
      clear d0 d1 d2 HC hq hr hM hhb hMb
      go_wp2_with (refine wpList_load_row rfl 112 _ rfl gw (by kernel_rfl) 112 SA (0, 0) _ (unhide HWA) Tryd.underlying112 rfl (by rw [zw, unhide HSS]) ?_)
      refine Calls.mono (unhide HBK) ?_
      rintro e w6 ⟨rfl, b6⟩
      clear eq1 eq2 eq3
      obtain ⟨HA, hHA⟩ : ∃ x, (bv hb).toArray = x := ⟨_, rfl⟩
      rw [hHA]
      have HHS : Hid (HA.size = 64) := hide (by rw [← hHA, List.size_toArray, bv_len, unhide HHL])
      have HHO' : Hid (HA.all (·.oneCell') = true) := hide (hHA ▸ one_bv _)
      obtain ⟨gb, hgb⟩ : ∃ x, w6.heap.size = x := ⟨_, rfl⟩
      have R7 : RowAt (w6.alloc (.cells HA 105)) gb 105 (bv hb) := by
        have := RowAt.new w6 105 (bv hb)
        rw [hHA, hgb] at this
        exact this
      have b7 : Below wo.heap.size wo (w6.alloc (.cells HA 105)) := b6.alloc b6.size _
      have HO7 := hide ((unhide HD1).below b7 (unhide HD1).lt)
      have HX7 : Hid (Only (· = go) w5 (w6.alloc (.cells HA 105))) := hide ((unhide HD2).trans (Only.of_below b7))
      have HGB : Hid (go < gb) := hide (Nat.lt_of_lt_of_le (unhide HD1).lt (hgb ▸ b6.size))
      have HR7 := hide R7
      clear b6 b7 R7 hHA HBK HD1 HD2 HWA
      go_upto_region 9 with (refine wpList_store_newc rfl 105 _ _ rfl HA gb hgb (by kernel_rfl) (by kernel_rfl) (by rw [zb64, unhide HHS]) (by rw [unhide HHS, unhide HXS]) (unhide HHO') ?_)
      generalize w6.alloc (.cells HA 105) = w7 at *
      try rw [hgb]
      try simp only [Act.put, List.setIfInBounds_toArray, List.set_cons_succ, List.set_cons_zero]
      go_cut [43, 44] (fun v u wx => v = .int .i64 (M : Int) ∧ u = .int .i64 0 ∧ wx = w7)
      case first =>
        clear eM
        go_wp2_with fail
        all_goals go_meet
        all_goals refine ⟨?_, rfl, rfl⟩
        all_goals congr 1
        all_goals (have := unhide HMM; omega)
      case rest =>
      obtain ⟨rfl, rfl, hw7⟩ := hcut
      replace hw7 := hw7.symm
      subst hw7
      go_wp2_with fail
      go_loopw [44] (fun s wr => ∃ j : Nat, j ≤ M ∧ s = .int .i64 (j : Int) ∧ Hid (RowAt wr go 5 (bv (tAt T bn more (a + j))) ∧ Only (· = go) w7 wr)) (fun s _ => (M - intOf s).toNat)
      case atStart => exact ⟨0, by omega, rfl, unhide HO7, Only.refl _ _⟩
      case round =>
        obtain ⟨j, hj, rfl, HE⟩ := hrel
        by_cases hjl : j < M
        · have hjI : (j : Int) < (M : Int) := by omega
          have hj64 : (j : Int) < 64 := by have := unhide HMB; omega
          obtain ⟨p, hp⟩ : ∃ x, a + j = x := ⟨_, rfl⟩
          have epI : (a : Int) + (j : Int) = (p : Int) := by omega
          have hpb : (p : Int) < (bn : Int) := by have := unhide HMB; omega
          have hpN : p < bn := by omega
          obtain ⟨d1, d2⟩ := unhide HE
          rw [hp] at d1
          have c1 := u8_cell d1 p (by rw [tAt_len T bn more p (unhide HTL) (by omega)]; omega)
          have f1 := d1.frozen p
          have BY := (unhide HBY).call ((unhide HB5).trans (((unhide HX7).trans d2).below (unhide HB5).size (fun k hk => by have := unhide HGW; have := unhide HGO; omega)))
          obtain ⟨ad, rfl, c2⟩ : ∃ ad, ba = some ad ∧ wr.cell? (ad.add p) = some (.int .u8 ((b.getD p 0 : Nat) : Int)) := by
            rcases BY with ⟨h1, _⟩ | ⟨a', c', h1, _, _, h4⟩
            · injection h1 with _ e2 _
              omega
            · injection h1 with e1 _ _
              refine ⟨a', e1, h4 p _ ?_⟩
              rw [List.getD_eq_getElem?_getD, List.getElem?_eq_getElem (by rw [unhide HBN]; exact hpN)]
              rfl
          have c3 := u8_cell ((unhide HR7).only d2 (by have := unhide HGB; omega)) j (by rw [unhide HHL]; have := unhide HMB; omega)
          have g1 := (unhide HB8).getD p
          have g2 := (unhide HH8).getD j
          have HSE2 := hide (tAt_set T bn more p (unhide HTL) hpN)
          have hTp : T.getD p 0 = b.getD p 0 ^^^ hb.getD j 0 := by
            rw [unhide HTG p hpN, turnW, show p / 64 = q by have := unhide HQ; have := unhide HD0; have := unhide HMB; omega, show p % 64 = j by have := unhide HD0; have := unhide HMB; omega, unhide HHE]
          rw [hTp] at HSE2
          have t1 := u8_xor_nat (b.getD p 0) (hb.getD j 0) g1 g2
          generalize b.getD p 0 = x1 at *
          generalize hb.getD j 0 = x2 at *
          generalize x1 ^^^ x2 = x3 at *
          generalize (tAt T bn more p).getD p 0 = x0 at *
          have HD := hide d1
          have HO := hide d2
          have HJL := hide hjl
          have HP := hide hp
          clear d1 d2 BY hTp HE hjl hp
          go_wp2_with fail
          refine wp_region_tail 14 (by kernel_rfl) (by kernel_rfl) ?_
          simp only [List.take_succ_cons, List.take_zero, List.drop_succ_cons, List.drop_zero]
          repeat (go_big_quiet_step (fail))
          refine wpQuiet_nil ?_
          go_wp2_with fail
          go_roundw
          case rel =>
            have h1 := (unhide HD).set p (.int .u8 (x3 : Int))
            rw [cbv_set, unhide HSE2] at h1
            exact ⟨j + 1, by have := unhide HJL; omega, by go_num, by rw [show a + (j + 1) = p + 1 by have := unhide HP; omega]; exact h1.drew, ((unhide HO).set go p _ rfl).drew⟩
          case measure => have := unhide HJL; simp [intOf]; omega
        · have hjI : ¬ (j : Int) < (M : Int) := by omega
          obtain rfl : j = M := by omega
          obtain ⟨d1, d2⟩ := unhide HE
          have HF : Hid ((a + 64) % 64 = 0 ∧ RowAt wr go 5 (bv (tAt T bn more (min (a + 64) bn))) ∧ Only (· = go) w5 wr) := hide ⟨by have := unhide HD0; omega, by rw [show min (a + 64) bn = a + j by have := unhide HMM; have := unhide HLT; omega]; exact d1, (unhide HX7).trans d2⟩
          clear d1 d2 HE
          have hab : a + 64 ≤ bn + 63 := by have := unhide HLT; omega
          go_wp2_with fail
          go_roundw
          case rel => exact ⟨a + 64, by go_num, hab, HF⟩
          case measure => have := unhide HLT; simp [intOf]; omega
    · have haI : ¬ (a : Int) < (bn : Int) := by omega
      obtain ⟨d0, d1, d2⟩ := unhide HC
      rw [Nat.min_eq_right (by omega), tAt_end T bn more (unhide HTL)] at d1
      have HD1 := hide d1
      have HBF := hide ((unhide HB5).trans (d2.below (unhide HB5).size (fun k hk => by have := unhide HGW; have := unhide HGO; omega)))
      clear d0 d1 d2 HC hlt
      go_wp2_with fail
      go_ret
      refine ⟨go, ?_, by have := unhide HGW; have := unhide HGO; omega, ?_, ?_⟩
      · rw [show bn + more = bm by omega]; rfl
      · rw [unhide HKE, unhide HWE, unhide HTE]; exact unhide HD1
      · have hb9 := unhide HBF
        (first | exact hb9 | (rw [unhide HG] at hb9; exact hb9))

end Go.Proofs.YtbnfilhilgjnfaaDoor
