/- A block folded into a state. -/
import Derived.Test.YtbnfilhilgjnfaaDoorSpread
namespace Go.Proofs.YtbnfilhilgjnfaaDoor
set_option linter.unusedVariables false
set_option linter.unusedSimpArgs false
open Go.ChangeShapes Go.WideShapes Go.ChangeAt Go.RowKit

/-- the state behind a block -/
def foldW (h b : List Nat) (n : Nat) (last : Bool) (i : Nat) : Nat :=
  h.getD i 0 ^^^ ((mixL (wordsOf b 16) 10 (spreadL h n last)).getD i 0 ^^^ (mixL (wordsOf b 16) 10 (spreadL h n last)).getD (i + 8) 0)
def foldL (h b : List Nat) (n : Nat) (last : Bool) : List Nat := (List.range 8).map (foldW h b n last)
theorem foldL_len (h b : List Nat) (n : Nat) (last : Bool) : (foldL h b n last).length = 8 := by simp [foldL]
theorem foldW_lt {h b : List Nat} {n : Nat} (last : Bool) (hh : W32 h) (hn : n < 18446744073709551616) (i : Nat) : foldW h b n last i < 4294967296 :=
  xor_lt (hh.getD i) (xor_lt ((mixL_32 _ (spreadL_32 last hh hn) 10).getD _) ((mixL_32 _ (spreadL_32 last hh hn) 10).getD _))
theorem foldL_32 {h b : List Nat} {n : Nat} (last : Bool) (hh : W32 h) (hn : n < 18446744073709551616) : W32 (foldL h b n last) := by
  intro y hy
  simp only [foldL, List.mem_map] at hy
  obtain ⟨i, _, rfl⟩ := hy
  exact foldW_lt last hh hn i
theorem foldL_getD (h b : List Nat) (n : Nat) (last : Bool) (i : Nat) (hi : i < 8) : (foldL h b n last).getD i 0 = foldW h b n last i := by
  simp [foldL, List.getD_eq_getElem?_getD, hi]
theorem front_get {h : List Nat} {rest : List Value} (i : Nat) (hi : i < h.length) : (u32v h ++ rest)[i]? = some (.int .u32 ((h.getD i 0 : Nat) : Int)) := by
  rw [List.getElem?_append_left (by rw [u32v_len]; exact hi), u32v, List.getElem?_map, List.getElem?_eq_getElem hi, List.getD_eq_getElem?_getD, List.getElem?_eq_getElem hi]; rfl
theorem front_cell {w : World} {g : Nat} {t : TypeId} {h : List Nat} {rest : List Value} (hr : RowAt w g t (u32v h ++ rest)) (i : Nat) (hi : i < h.length) : w.cell? ⟨g, i, none⟩ = some (.int .u32 ((h.getD i 0 : Nat) : Int)) := by
  rw [hr.cell, front_get i hi]
theorem front_set (h : List Nat) (rest : List Value) (i x : Nat) (hi : i < h.length) : (u32v h ++ rest).set i (.int .u32 (x : Int)) = u32v (h.set i x) ++ rest := by
  rw [List.set_append_left _ _ (by rw [u32v_len]; exact hi), u32v_set]
theorem step_set (F h : List Nat) (k n : Nat) (hF : F.length = n) (hh : h.length = n) (hk : k < n) : (F.take k ++ h.drop k).set k (F.getD k 0) = F.take (k + 1) ++ h.drop (k + 1) ∧ (F.take k ++ h.drop k).getD k 0 = h.getD k 0 ∧ (F.take k ++ h.drop k).length = n := by
  have h1 : (F.take k).length = k := by simp; omega
  have h2 : h.drop k = h[k] :: h.drop (k + 1) := List.drop_eq_getElem_cons (by omega)
  refine ⟨?_, ?_, by simp; omega⟩
  · rw [List.set_append_right _ _ (by omega), h1, h2, Nat.sub_self, List.set_cons_zero, List.take_succ_eq_append_getElem (by omega), List.getD_eq_getElem?_getD, List.getElem?_eq_getElem (by omega)]
    simp only [Option.getD_some, List.append_assoc, List.cons_append, List.nil_append]
  · rw [List.getD_eq_getElem?_getD, List.getElem?_append_right (by omega), h1, Nat.sub_self, List.getElem?_drop, List.getD_eq_getElem?_getD]
    rfl
theorem Tabs.below {w w' : World} (h : Tabs w) (hb : Below w.heap.size w w') : Tabs w' := ⟨h.1.below hb h.1.lt, h.2.below hb h.2.lt⟩
theorem Tabs.only {w w' : World} {p : Nat → Prop} (h : Tabs w) (hb : Only p w w') (hp : ∀ k, p k → 7 ≤ k) : Tabs w' :=
  ⟨h.1.only hb (fun hp0 => by have := hp _ hp0; omega), h.2.only hb (fun hp0 => by have := hp _ hp0; omega)⟩
theorem Tabs.two {w : World} (h : Tabs w) : 7 ≤ w.heap.size := h.2.lt

set_option maxRecDepth 100000 in
set_option maxHeartbeats 4000000 in
/-- the state is the first eight cells of a block -/
theorem sfold_any (g n : Nat) (t : TypeId) (last : Bool) (h b : List Nat) (rest : List Value) (w : World) (hT : Tabs w) (hg2 : 7 ≤ g) (hh : h.length = 8) (h32 : W32 h) (hb : b.length = 64) (h8 : U8 b) (hn : n < 18446744073709551616)
    (hr : RowAt w g t (u32v h ++ rest)) :
    Calls Tryd.prog 90 #[.pointer (some ⟨g, 0, none⟩), .agg (bv b).toArray, .int .u64 (n : Int), .bool last] w
      fun e w' => e = .returned (.tuple #[]) ∧ RowAt w' g t (u32v (foldL h b n last) ++ rest) ∧ Only (· = g) w w' := by
  obtain ⟨M, hM⟩ : ∃ M, (bv b).toArray = M := ⟨_, rfl⟩
  have R5 := RowAt.new w 105 (bv b)
  rw [hM] at R5 ⊢
  have R8 := RowAt.new (w.alloc (.cells M 105)) 134 (u32v (List.replicate 16 0))
  rw [size_alloc] at R8
  have R5' := R5.only (p := fun _ => False) ((Only.refl _ _).alloc (.cells (u32v (List.replicate 16 0)).toArray 134)) id
  have hgl := hr.lt
  have O1 : Only (· = g) w ((w.alloc (.cells M 105)).alloc (.cells (u32v (List.replicate 16 0)).toArray 134)) := ((Only.refl _ _).alloc _).alloc _
  go_enter Tryd.func90, Tryd.ntmps90
  go_wp2_with fail
  generalize hw2 : (w.alloc (.cells M 105)).alloc (.cells #[Value.int IntKind.u32 0, Value.int IntKind.u32 0, Value.int IntKind.u32 0, Value.int IntKind.u32 0, Value.int IntKind.u32 0, Value.int IntKind.u32 0, Value.int IntKind.u32 0, Value.int IntKind.u32 0, Value.int IntKind.u32 0, Value.int IntKind.u32 0, Value.int IntKind.u32 0, Value.int IntKind.u32 0, Value.int IntKind.u32 0, Value.int IntKind.u32 0, Value.int IntKind.u32 0, Value.int IntKind.u32 0] 134) = w2
  have Q5 : RowAt w2 w.heap.size 105 (bv b) := hw2 ▸ R5'
  have Q8 : RowAt w2 (w.heap.size + 1) 134 (u32v (List.replicate 16 0)) := hw2 ▸ R8
  have O2 : Only (· = g) w w2 := hw2 ▸ O1
  have Qg : RowAt w2 g t (u32v h ++ rest) := by
    have : Only (fun _ => False) w w2 := hw2 ▸ (((Only.refl _ w).alloc _).alloc _)
    exact hr.only this id
  clear R5 R8 R5' O1 hw2 hr
  have HRD := hide (read_any (w.heap.size + 1) 0 16 16 w.heap.size 0 64 64 134 (u32v (List.replicate 16 0)) b w2.drew Q8.drew (by simp [u32v]) (by omega) h8 (by omega) (by omega) (by omega) (by omega)
    (fun i hi => by rw [Nat.zero_add]; exact u8_cell Q5.drew i (by omega)))
  have T2 := hide (hT.only O2 (fun k hk => by omega))
  have HQg := hide Qg
  have HO2 := hide O2
  have HQ8 := hide Q8
  clear Q5 Q8 O2 Qg hT
  refine wp_region_tail 2 (by kernel_rfl) (by kernel_rfl) ?_
  simp only [List.take_succ_cons, List.take_zero, List.drop_succ_cons, List.drop_zero]
  repeat (go_big_quiet_step (fail))
  refine wpQuiet_nil ?_
  go_wp2_with fail
  refine Calls.mono (unhide HRD) ?_
  rintro e w3 ⟨rfl, r3, o3⟩
  rw [putAt_whole _ _ (by simp [u32v, wordsOf])] at r3
  have O3 : Only (· = g) w w3 := (unhide HO2).drew.next o3 (fun i hi => by omega)
  have G3 : RowAt w3 g t (u32v h ++ rest) := (unhide HQg).drew.only o3 (by omega)
  have T3 : Tabs w3 := (unhide T2).only ((Only.drew (Only.refl _ w2)).trans o3) (fun k hk => by omega)
  have HSP := hide (spread_any g n last h w3 T3 hh hn G3.lt (fun i hi => front_cell G3 i (by omega)))
  have HO3 := hide O3
  have HG3 := hide G3
  have HT3 := hide T3
  have HR3 := hide r3
  clear HRD T2 HQg HO2 HQ8 o3 r3 O3 G3 T3
  go_wp2_with fail
  refine Calls.mono (unhide HSP) ?_
  rintro e w4 ⟨rfl, b4⟩
  obtain ⟨V, hV⟩ : ∃ V, (u32v (spreadL h n last)).toArray = V := ⟨_, rfl⟩
  have HVS : Hid (V.size = 16) := hide (by rw [← hV]; simp [u32v_len, spreadL_len h n _ hh])
  have HV1 : Hid (V.all (·.oneCell') = true) := hide (hV ▸ one_u32 _)
  rw [hV]
  obtain ⟨W, hW⟩ : ∃ W, (u32v (wordsOf b 16)).toArray = W := ⟨_, rfl⟩
  have HWS : Hid (W.size = 16) := hide (by rw [← hW]; simp [u32v_len, wordsOf_len])
  have w4s := b4.size
  have HW4 : Hid (w.heap.size ≤ w4.heap.size) := hide (Nat.le_trans (unhide HO3).size b4.size)
  have s3 := (unhide HR3).lt
  have HRV : Hid (RowAt (w4.alloc (.cells V 134)) w4.heap.size 134 (u32v (spreadL h n last))) := hide (hV ▸ RowAt.new w4 134 (u32v (spreadL h n last)))
  have b5 : Below w3.heap.size w3 (w4.alloc (.cells V 134)) := b4.alloc w4s _
  have HRW := hide ((unhide HR3).below b5 s3)
  have HRW' : Hid ((w4.alloc (.cells V 134)).heap[w.heap.size + 1]? = some (.cells W 134 (0, 0))) := hide ((unhide HRW).arr hW)
  have HG5 := hide ((unhide HG3).below b5 (unhide HG3).lt)
  have HT5 := hide ((unhide HT3).below b5)
  have HO5 : Hid (Only (· = g) w (w4.alloc (.cells V 134))) := hide ((unhide HO3).trans (Only.of_below b5))
  have HMX := hide (mix_any w4.heap.size (spreadL h n last) (wordsOf b 16) (w4.alloc (.cells V 134)) (spreadL_len h n _ hh) (wordsOf_len b 16) (spreadL_32 last h32 hn) (wordsOf_32 h8 16) (unhide HT5) (by have := (unhide HT3).two; omega) (unhide HRV))
  rw [hW] at HMX
  have hg4 : Hid (g < w4.heap.size) := hide (by have := (unhide HG3).lt; omega)
  clear HSP HO3 HG3 HT3 HR3 hV hW s3 b5 b4 HRW HRV
  go_wp2_with (first
    | (refine wpList_store_new rfl 134 _ _ rfl V rfl rfl (by rw [z75, unhide HVS]) (by rw [unhide HVS]; rfl) (unhide HV1) ?_)
    | (refine wpList_load_row rfl 134 _ rfl (w.heap.size + 1) rfl 134 W (0, 0) _ (unhide HRW') Tryd.underlying134 rfl (by rw [z75, unhide HWS]) ?_))
  refine Calls.mono (unhide HMX) ?_
  rintro e w6 ⟨rfl, r6, o6⟩
  have HR6 := hide r6
  have HG6 := hide ((unhide HG5).only o6 (by have := unhide hg4; omega))
  have HO6 := hide ((unhide HO5).next o6 (fun i hi => by have := unhide HW4; omega))
  have HL6 : Hid ((mixL (wordsOf b 16) 10 (spreadL h n last)).length = 16) := hide (by rw [mixL_len, spreadL_len h n _ hh])
  have H36 : Hid (W32 (mixL (wordsOf b 16) 10 (spreadL h n last))) := hide (mixL_32 _ (spreadL_32 last h32 hn) 10)
  have HFW : Hid (∀ i, i < 8 → (foldL h b n last).getD i 0 = h.getD i 0 ^^^ ((mixL (wordsOf b 16) 10 (spreadL h n last)).getD i 0 ^^^ (mixL (wordsOf b 16) 10 (spreadL h n last)).getD (i + 8) 0)) := hide (fun i hi => foldL_getD h b n last i hi)
  have HFL : Hid ((foldL h b n last).length = 8) := hide (foldL_len h b n last)
  generalize mixL (wordsOf b 16) 10 (spreadL h n last) = mx at *
  generalize hFe : foldL h b n last = FF at *
  clear HMX HRW' HG5 HT5 HO5 r6 o6
  go_wp2_with fail
  obtain ⟨B, hB⟩ : ∃ B, w4.heap.size = B := ⟨_, rfl⟩
  rw [hB] at HR6 hg4 ⊢
  clear hB w4s
  go_loopw [20] (fun s wr => ∃ k : Nat, k ≤ 8 ∧ s = .int .i64 (k : Int) ∧ Hid (RowAt wr g t (u32v (FF.take k ++ h.drop k) ++ rest) ∧ RowAt wr B 134 (u32v mx) ∧ Only (· = g) w wr)) (fun s _ => (8 - intOf s).toNat)
  case atStart => exact ⟨0, by omega, rfl, by simpa using unhide HG6, unhide HR6, unhide HO6⟩
  case round =>
    obtain ⟨k, hk, rfl, HC⟩ := hrel
    by_cases hlt : k < 8
    · obtain ⟨q1, q2, q3⟩ := step_set FF h k 8 (unhide HFL) hh hlt
      have c0 := front_cell (unhide HC).1 k (by omega)
      rw [q2] at c0
      have f0 := (unhide HC).1.frozen k
      have c1 := u32_cell (unhide HC).2.1 k (by rw [unhide HL6]; omega)
      have c2 := u32_cell (unhide HC).2.1 (k + 8) (by rw [unhide HL6]; omega)
      have g0 := h32.getD k
      have g1 := (unhide H36).getD k
      have g2 := (unhide H36).getD (k + 8)
      have e0 := unhide HFW k hlt
      generalize h.getD k 0 = x0 at *
      generalize mx.getD k 0 = x1 at *
      generalize mx.getD (k + 8) 0 = x2 at *
      have t1 := u32_xor_nat x1 x2 g1 g2
      have g3 := xor_lt g1 g2
      generalize x1 ^^^ x2 = x3 at *
      have t2 := u32_xor_nat x0 x3 g0 g3
      generalize x0 ^^^ x3 = x4 at *
      have HQ : Hid ((FF.take k ++ h.drop k).set k x4 = FF.take (k + 1) ++ h.drop (k + 1)) := hide (e0 ▸ q1)
      have HQ3 := hide q3
      have hk8 : (k : Int) < 8 := by omega
      have hgB : ¬ g = B := by have := unhide hg4; omega
      clear q1 q2 q3 e0 g0 g1 g2 g3 hlt HFW H36 HL6 h32 h8
      go_wp2_with fail
      go_region
      go_wp2_with fail
      go_roundw
      case rel =>
        obtain ⟨d1, d2, d3⟩ := unhide HC
        have h1 := d1.set k (.int .u32 (x4 : Int))
        rw [front_set _ _ _ _ (by rw [unhide HQ3]; omega), unhide HQ] at h1
        exact ⟨k + 1, by omega, by go_num, h1.drew, (d2.only (Only.set (Only.refl (· = g) wr) _ _ _ rfl) (fun e => hgB e.symm)).drew, (d3.set g k _ rfl).drew⟩
      case measure => first | (simp [intOf]; done) | (simp [intOf]; omega)
    · have hk8 : k = 8 := by omega
      have hnn : ¬ (k : Int) < 8 := by omega
      rw [hk8, List.drop_of_length_le (by omega), List.append_nil, List.take_of_length_le (by rw [unhide HFL]; omega)] at HC
      clear hk8 hk hlt
      go_wp2_with fail
      go_end0
      subst hFe
      exact ⟨rfl, (unhide HC).1, (unhide HC).2.2⟩
end Go.Proofs.YtbnfilhilgjnfaaDoor
