/- Keys that are made of a secret. -/
import Derived.Test.YtbnfilhilgjnfaaDoorLists
import Derived.Deep.OwnRows
import Derived.Laws.OwnMore
namespace Go.Proofs.YtbnfilhilgjnfaaDoor
set_option linter.unusedVariables false
set_option linter.unusedSimpArgs false
open Go.ChangeShapes Go.WideShapes Go.ChangeAt Go.RowKit Go.Joins

/-- a piece, and all pieces up to it -/
def keyT (R : List Nat) : Nat → List Nat
  | 0 => []
  | k + 1 => keyedL R (keyT R k ++ [(k + 1) % 256])
def keyAll (R : List Nat) : Nat → List Nat
  | 0 => []
  | k + 1 => keyAll R k ++ keyT R (k + 1)
theorem keyT_len (R : List Nat) (k : Nat) : (keyT R (k + 1)).length = 32 := keyedL_len _ _
theorem keyAll_len (R : List Nat) : ∀ k, (keyAll R k).length = 32 * k
  | 0 => rfl
  | k + 1 => by rw [keyAll, List.length_append, keyAll_len, keyT_len]; omega
theorem kkeyedL_8 (key all : List Nat) : U8 (keyedL key all) := sumL_8 _ _
theorem keyT_8 (R : List Nat) : ∀ k, U8 (keyT R k)
  | 0 => fun y hy => by cases hy
  | k + 1 => kkeyedL_8 _ _
theorem keyAll_8 (R : List Nat) : ∀ k, U8 (keyAll R k)
  | 0 => fun y hy => by cases hy
  | k + 1 => fun y hy => by
    rcases List.mem_append.1 hy with h | h
    · exact keyAll_8 R k y h
    · exact keyT_8 R (k + 1) y h
theorem keyAll_take (R : List Nat) (k : Nat) : ∀ d n, n ≤ 32 * k → (keyAll R (k + d)).take n = (keyAll R k).take n
  | 0, n, _ => rfl
  | d + 1, n, h => by
    rw [show k + (d + 1) = (k + d) + 1 by omega, keyAll, List.take_append_of_le_length (by rw [keyAll_len]; omega), keyAll_take R k d n h]
theorem kmade_list (n : Nat) : (madeCells #[Value.int .u8 0] n).toList = bv (List.replicate n 0) := by
  rw [toList_madeCells_one]; simp [bv]

set_option maxRecDepth 100000 in
set_option maxHeartbeats 8000000 in
theorem key_any (sv uv : Value) (sec use : List Nat) (n : Nat) (w : World) (hT : Tabs w) (hs : Byt w sv sec) (hu : Byt w uv use) (hs8 : U8 sec) (hu8 : U8 use) (hsl : sec.length ≤ 100000) (hul : use.length ≤ 100000) (hn : n ≤ 8160) :
    Calls Tryd.prog 43 #[sv, uv, .int .i64 (n : Int)] w fun e w' => ∃ v', e = .returned (.tuple #[v', .int .i64 0]) ∧ Byt w' v' ((keyAll (keyedL sec use) 255).take n) ∧ Below w.heap.size w w' := by
  obtain ⟨i0, hi, hz0, hz1, hz2⟩ := info_parts info5
  have HT := hide hT
  obtain ⟨sa, sc, hse⟩ := byt_shape hs
  obtain ⟨ua, uc, hue⟩ := byt_shape hu
  obtain ⟨sn, hsn⟩ : ∃ x, sec.length = x := ⟨_, rfl⟩
  obtain ⟨un, hun⟩ : ∃ x, use.length = x := ⟨_, rfl⟩
  rw [hsn] at hse
  rw [hun] at hue
  subst hse hue
  have b1 : Below w.heap.size w (w.alloc (.cells #[.slice ua un uc] 30)) := (Below.refl _ _).alloc (Nat.le_refl _) _
  have eF : flat [(Value.slice ua un uc, use)] = use := by simp [flat]
  have HKD := hide (keyed_any _ sec [(.slice ua un uc, use)] _ _ (hT.below b1) (hs.call b1) hs8 hsl (LL.one hu) (fun x hx => by obtain rfl := List.mem_singleton.1 hx; exact hu8) (by rw [eF]; omega))
  rw [eF] at HKD
  have HB1 := hide b1
  obtain ⟨R, hR⟩ : ∃ R, keyedL sec use = R := ⟨_, rfl⟩
  rw [hR] at HKD
  have HRL : Hid (R.length = 32) := hide (hR ▸ keyedL_len _ _)
  have HR8 : Hid (U8 R) := hide (hR ▸ kkeyedL_8 _ _)
  have HRE := hide hR
  have hz := zero27
  generalize hZ : (bv (List.replicate 32 0)).toArray = Z at hz
  have HZS : Hid (Z.size = 32) := hide (by rw [← hZ, List.size_toArray, bv_len, List.length_replicate])
  have hn0 : ¬ (n : Int) < 0 := by omega
  have hn1 : ¬ (8160 : Int) < (n : Int) := by omega
  clear hT hs hu hs8 hu8 hsl hul hsn hun b1 eF hR hZ
  go_enter Tryd.func43, Tryd.ntmps43
  go_wp2_with fail
  generalize w.alloc (.cells #[.slice ua un uc] 30) = w1 at *
  refine Calls.mono (unhide HKD) ?_
  rintro e w2 ⟨rfl, b2⟩
  obtain ⟨S, hS⟩ : ∃ S, (bv R).toArray = S := ⟨_, rfl⟩
  rw [hS]
  have HSS : Hid (S.size = 32) := hide (by rw [← hS, List.size_toArray, bv_len, unhide HRL])
  have HSO : Hid (S.all (·.oneCell') = true) := hide (hS ▸ one_bv _)
  have R3 := RowAt.new w2 90 (bv R)
  rw [hS] at R3
  have B2 := (unhide HB1).trans (b2.mono (unhide HB1).size)
  have B3 := B2.alloc B2.size (.cells S 90)
  have HGR : Hid (w.heap.size ≤ w2.heap.size) := hide B2.size
  have R4 := R3.only (p := fun _ => False) ((Only.refl _ _).alloc (.cells (madeCells #[.int .u8 0] n) 5)) id
  have Q4 : RowAt ((w2.alloc (.cells S 90)).alloc (.cells (madeCells #[.int .u8 0] n) 5)) (w2.heap.size + 1) 5 (bv (List.replicate n 0)) := by
    have := RowAt.new (w2.alloc (.cells S 90)) 5 (bv (List.replicate n 0))
    have e : (bv (List.replicate n 0)).toArray = madeCells #[.int .u8 0] n := by rw [← kmade_list]
    rw [size_alloc, e] at this
    exact this
  have HB4 := hide (B3.alloc B3.size (.cells (madeCells #[.int .u8 0] n) 5))
  have HR4 := hide R4
  have HQ4 := hide Q4
  have HS3 : Hid ((w2.alloc (.cells S 90)).heap.size = w2.heap.size + 1) := hide (size_alloc _ _)
  clear R3 b2 B2 B3 R4 Q4 hS HKD HB1
  go_wp2_with (first
    | (refine wpList_store_new rfl 90 _ _ rfl S rfl rfl (by rw [z27, unhide HSS]) (by rw [unhide HSS, unhide HZS]) (unhide HSO) ?_)
    | (refine wpList_make_row _ rfl _ _ 30 rfl 5 i0 (.int .u8 0) Tryd.underlying30 hi hz0 hz1 rfl .i64 .i64 n rfl rfl (by rw [hz2]; omega) (by omega) ?_))
  generalize (w2.alloc (.cells S 90)).alloc (.cells (madeCells #[.int .u8 0] n) 5) = w4 at *
  obtain ⟨gr, hgr⟩ : ∃ g, w2.heap.size = g := ⟨_, rfl⟩
  rw [hgr] at HR4 HQ4 HGR ⊢
  clear HS3 hgr
  go_loopw [10, 11, 12] (fun la s i wr => ∃ k : Nat, k ≤ 255 ∧ (k = 0 ∨ 32 * (k - 1) < n) ∧ s = .int .i64 ((min (32 * k) n : Nat) : Int) ∧ i = .int .u8 (((k + 1) % 256 : Nat) : Int) ∧ (∃ a m c, la = .slice a m c) ∧ Hid (Byt wr la (keyT R k) ∧ RowAt wr gr 90 (bv R) ∧ RowAt wr (gr + 1) 5 (bv ((keyAll R k).take n ++ List.replicate (n - min (32 * k) n) 0)) ∧ Below w.heap.size w wr)) (fun _ s _ _ => (n - intOf s).toNat)
  case atStart => exact ⟨0, by omega, .inl rfl, by simp, rfl, ⟨_, _, _, rfl⟩, .inl ⟨rfl, rfl⟩, unhide HR4, by simpa [keyAll] using unhide HQ4, unhide HB4⟩
  case round =>
    obtain ⟨k, hk, hkc, rfl, rfl, ⟨la, lm, lc, rfl⟩, HC⟩ := hrel
    obtain ⟨t, ht⟩ : ∃ t, min (32 * k) n = t := ⟨_, rfl⟩
    obtain ⟨q, hq⟩ : ∃ q, (k + 1) % 256 = q := ⟨_, rfl⟩
    rw [ht] at HC ⊢
    rw [hq]
    by_cases hlt : t < n
    · have htI : (t : Int) < (n : Int) := by omega
      have hk32 : 32 * k < n := by omega
      have htk : t = 32 * k := by omega
      obtain ⟨x1, x2, x3, x4⟩ := unhide HC
      -- the piece
      have b5 : Below wr.heap.size wr (wr.alloc (.cells #[.int .u8 (q : Int)] 5)) := (Below.refl _ _).alloc (Nat.le_refl _) _
      have L5 : Byt (wr.alloc (.cells #[.int .u8 (q : Int)] 5)) (.slice (some ⟨wr.heap.size, 0, none⟩) 1 1) [q] := .inr ⟨_, 1, rfl, by simp, by unfold maxLen; omega, fun i y hy => by
        match i, hy with
        | 0, hy => simp at hy; subst hy; simp [Addr.add]
        | i + 1, hy => simp at hy⟩
      have L6 := LL.two (x1.call b5) L5
      rw [size_alloc] at L6
      have B5 := x4.trans (b5.mono x4.size)
      have b6 : Below (wr.alloc (.cells #[.int .u8 (q : Int)] 5)).heap.size (wr.alloc (.cells #[.int .u8 (q : Int)] 5)) ((wr.alloc (.cells #[.int .u8 (q : Int)] 5)).alloc (.cells #[.slice la lm lc, .slice (some ⟨wr.heap.size, 0, none⟩) 1 1] 30)) := (Below.refl _ _).alloc (Nat.le_refl _) _
      have B6 := B5.trans (b6.mono B5.size)
      have b56 := b5.trans (b6.mono b5.size)
      have RV : Byt ((wr.alloc (.cells #[.int .u8 (q : Int)] 5)).alloc (.cells #[.slice la lm lc, .slice (some ⟨wr.heap.size, 0, none⟩) 1 1] 30)) (.slice (some ⟨gr, 0, none⟩) 32 32) R := .inr ⟨⟨gr, 0, none⟩, 32, by rw [unhide HRL], by rw [unhide HRL]; omega, by unfold maxLen; omega, fun i y hy => by
        rw [add_plain, Nat.zero_add, (x2.below b56 x2.lt).cell, bv, List.getElem?_map, hy]; rfl⟩
      have eF : flat [(Value.slice la lm lc, keyT R k), (Value.slice (some ⟨wr.heap.size, 0, none⟩) 1 1, [q])] = keyT R k ++ [q] := by simp [flat]
      have hkT : (keyT R k).length ≤ 32 := by cases k with | zero => simp [keyT] | succ k => rw [keyT_len]; omega
      have HKD := hide (keyed_any _ R _ _ _ ((unhide HT).below B6) RV (unhide HR8) (by rw [unhide HRL]; omega) L6 (fun x hx => by
        rcases List.mem_cons.1 hx with rfl | hx
        · exact keyT_8 R k
        · obtain rfl := List.mem_singleton.1 hx
          intro y hy
          obtain rfl := List.mem_singleton.1 hy
          omega) (by rw [eF, List.length_append, List.length_singleton]; omega))
      rw [eF] at HKD
      have HTE : Hid (keyedL R (keyT R k ++ [q]) = keyT R (k + 1)) := hide (by rw [keyT, hq])
      rw [unhide HTE] at HKD
      have HB6 := hide B6
      have HX2 := hide (x2.below b56 x2.lt)
      have HX3 := hide (x3.below b56 x3.lt)
      have HKK := hide (And.intro hk32 (And.intro htk hk))
      have HQ := hide hq
      clear x1 x2 x3 x4 b5 L5 L6 B5 b6 B6 b56 RV eF hkT HC HTE hk32 htk hq ht hkc hk hlt HR4 HQ4 HB4
      go_wp2_with fail
      generalize (wr.alloc (.cells #[.int .u8 (q : Int)] 5)).alloc (.cells #[.slice la lm lc, .slice (some ⟨wr.heap.size, 0, none⟩) 1 1] 30) = w6 at *
      refine Calls.mono (unhide HKD) ?_
      rintro e w7 ⟨rfl, b7⟩
      obtain ⟨T, hTT⟩ : ∃ T, (bv (keyT R (k + 1))).toArray = T := ⟨_, rfl⟩
      rw [hTT]
      have HTS : Hid (T.size = 32) := hide (by rw [← hTT, List.size_toArray, bv_len, keyT_len])
      have HTO : Hid (T.all (·.oneCell') = true) := hide (hTT ▸ one_bv _)
      have R8 := RowAt.new w7 90 (bv (keyT R (k + 1)))
      rw [hTT] at R8
      have B7 := (unhide HB6).trans (b7.mono (unhide HB6).size)
      have b8 : Below w6.heap.size w6 (w7.alloc (.cells T 90)) := b7.alloc b7.size _
      have HX28 := hide ((unhide HX2).below b8 (unhide HX2).lt)
      have HX38 := hide ((unhide HX3).below b8 (unhide HX3).lt)
      have HB8 := hide (B7.alloc B7.size (.cells T 90))
      have HGP : Hid (gr + 1 < w7.heap.size) := hide (Nat.lt_of_lt_of_le (unhide HX3).lt b7.size)
      have HR8' := hide R8
      clear R8 b7 B7 b8 hTT HKD HB6 HX2 HX3
      -- the copy
      obtain ⟨m, hm⟩ : ∃ m, m = min 32 (n - t) := ⟨_, rfl⟩
      have hkk := unhide HKK
      have HML : Hid ((bv ((keyT R (k + 1)).take m)).length = m) := hide (by rw [bv_len, List.length_take, keyT_len]; omega)
      obtain ⟨hk32, htk, hk⟩ := hkk
      have e38 : (bv ((keyAll R k).take n ++ List.replicate (n - t) 0)).length = n := by rw [bv_len, List.length_append, List.length_take, keyAll_len, List.length_replicate]; omega
      have hcopy : ∀ ty, (Builtin.copy_ #[30, 30] ty #[.slice (some ⟨gr + 1, t, none⟩) (n - t) (n - t), .slice (some ⟨w7.heap.size, 0, none⟩) 32 32]).run Tryd.prog (w7.alloc (.cells T 90)).drew = .ok (goInt (bv ((keyT R (k + 1)).take m)).length) ((w7.alloc (.cells T 90)).drew.setCells (gr + 1) t (bv ((keyT R (k + 1)).take m))) := fun ty =>
        run_copy_cells (w7.alloc (.cells T 90)).drew 30 30 ty 5 (gr + 1) t (n - t) (n - t) ⟨w7.heap.size, 0, none⟩ 32 32 (bv ((keyT R (k + 1)).take m)) Tryd.underlying30 z5 (by rw [unhide HML, hm])
          (fun i u hi => by
            rw [bv, List.getElem?_map] at hi
            obtain ⟨y, hy, rfl⟩ := Option.map_eq_some_iff.1 hi
            have hy' : (keyT R (k + 1))[i]? = some y := by
              rw [List.getElem?_take] at hy
              split at hy
              · exact hy
              · cases hy
            rw [add_plain, Nat.zero_add, (unhide HR8').drew.cell, bv, List.getElem?_map, hy']; rfl)
          (fun i hi => by rw [unhide HML] at hi; rw [(unhide HX38).drew.cell, List.getElem?_eq_getElem (by rw [e38]; omega)]; rfl)
          (fun i hi => (unhide HX38).drew.frozen _) (fun u hu => one_bv' hu)
      obtain ⟨c1, c2⟩ := RowAt.setCells (bv ((keyT R (k + 1)).take m)) t _ _ (unhide HX38).drew (by rw [unhide HML, e38]; omega)
      rw [unhide HML] at hcopy
      have eN : putAt (bv ((keyAll R k).take n ++ List.replicate (n - t) 0)) t (bv ((keyT R (k + 1)).take m)) = bv ((keyAll R (k + 1)).take n ++ List.replicate (n - min (32 * (k + 1)) n) 0) := by
        have h1 : (keyAll R k).take n = keyAll R k := List.take_of_length_le (by rw [keyAll_len]; omega)
        have h2 : (keyAll R (k + 1)).take n = keyAll R k ++ (keyT R (k + 1)).take m := by
          rw [keyAll, List.take_append, keyAll_len, List.take_of_length_le (by rw [keyAll_len]; omega)]
          congr 1
          rw [hm, htk]
          rcases Nat.le_total 32 (n - 32 * k) with hle | hle
          · rw [Nat.min_eq_left hle, List.take_of_length_le (by rw [keyT_len]; omega), List.take_of_length_le (by rw [keyT_len]; omega)]
          · rw [Nat.min_eq_right hle]
        rw [h1, h2, putAt, unhide HML, bv_append, bv_append, bv_append]
        have l1 : (bv (keyAll R k)).length = t := by rw [bv_len, keyAll_len, htk]
        rw [← l1, List.take_left, l1, List.drop_append, l1, List.drop_of_length_le (by rw [l1]; omega), List.nil_append]
        congr 1
        simp only [bv, List.map_replicate, List.drop_replicate]
        congr 1
        omega
      rw [eN] at c1
      have HC1 := hide c1
      have HO2 := hide c2
      have HX29 := hide ((unhide HX28).drew.only c2 (by omega))
      have HB9 := hide (show Below w.heap.size w _ from (unhide HB8).trans (((Only.drew (Only.refl (· = gr + 1) (w7.alloc (.cells T 90)))).trans c2).below (unhide HB8).size (fun k hk => by have := unhide HGR; omega)))
      have HT9 := hide ((unhide HR8').drew.only c2 (by have := unhide HGP; omega))
      have HST : Hid (t + m = min (32 * (k + 1)) n) := hide (by omega)
      have HMI : Hid (m ≤ 32 ∧ t + m ≤ n ∧ 0 < m) := hide (by omega)
      clear c1 c2 eN e38 hm hk32 htk hk HX28 HX38 HR8' HB8
      generalize hw9 : (w7.alloc (.cells T 90)).drew.setCells (gr + 1) t (bv ((keyT R (k + 1)).take m)) = w9 at *
      have hnt : ¬ n = t := by omega
      have hnt2 : ¬ n < t := by omega
      have hnt3 : t ≤ n := by omega
      have hm32 : m ≤ 32 := (unhide HMI).1
      go_wp2_with (refine wpList_store_new rfl 90 _ _ rfl T rfl rfl (by rw [z27, unhide HTS]) (by rw [unhide HTS, unhide HZS]) (unhide HTO) ?_)
      simp only [Act.put, List.setIfInBounds_toArray, List.set_cons_succ, List.set_cons_zero]
      go_region
      clear hcopy
      have hq256 : q < 256 := by have := unhide HQ; omega
      go_wp2_with fail
      have hh1 := unhide HKK
      have hh2 := unhide HST
      have hh3 := unhide HMI
      have hh4 := unhide HQ
      refine ⟨⟨k + 1, by omega, .inr (by simpa using hh1.1), ?_, ?_, ⟨_, _, _, rfl⟩, ?_⟩, ?_⟩
      · rw [← hh2]; congr 1
      · congr 1; omega
      · refine ⟨.inr ⟨⟨w7.heap.size, 0, none⟩, 32, by rw [keyT_len], by rw [keyT_len]; omega, by unfold maxLen; omega, fun i y hy => ?_⟩, unhide HX29, unhide HC1, unhide HB9⟩
        rw [add_plain, Nat.zero_add, (unhide HT9).cell, bv, List.getElem?_map, hy]; rfl
      · simp [intOf]; omega
    · have htI : ¬ (t : Int) < (n : Int) := by omega
      obtain ⟨x1, x2, x3, x4⟩ := unhide HC
      have e1 : n - t = 0 := by omega
      rw [e1, List.replicate_zero, List.append_nil] at x3
      have e2 : (keyAll R k).take n = (keyAll R 255).take n := by
        have := keyAll_take R k (255 - k) n (by omega)
        rw [show k + (255 - k) = 255 by omega] at this
        exact this.symm
      rw [e2] at x3
      have hl : ((keyAll R 255).take n).length = n := by rw [List.length_take, keyAll_len]; omega
      have HV : Hid (Byt wr (.slice (some ⟨gr + 1, 0, none⟩) n n) ((keyAll R 255).take n)) := hide (.inr ⟨⟨gr + 1, 0, none⟩, n, by rw [hl], by rw [hl]; omega, by unfold maxLen; omega, fun i y hy => by
        rw [add_plain, Nat.zero_add, x3.cell, bv, List.getElem?_map, hy]; rfl⟩)
      have HX4 := hide x4
      clear x1 x2 x3 x4 e1 e2 hl HC ht hq hlt hkc hk HR4 HQ4 HB4
      go_wp2_with fail
      go_ret2
      refine ⟨_, rfl, ?_, unhide HX4⟩
      rw [unhide HRE]
      exact unhide HV
end Go.Proofs.YtbnfilhilgjnfaaDoor
