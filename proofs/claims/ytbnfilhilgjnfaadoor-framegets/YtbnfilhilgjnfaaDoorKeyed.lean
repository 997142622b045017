/- A digest that hangs on a key. -/
import Derived.Test.YtbnfilhilgjnfaaDoorNew
namespace Go.Proofs.YtbnfilhilgjnfaaDoor
set_option linter.unusedVariables false
set_option linter.unusedSimpArgs false
open Go.ChangeShapes Go.WideShapes Go.ChangeAt Go.RowKit Go.Joins

def keyK (key : List Nat) : List Nat := if 0 < key.length ∧ key.length ≤ 32 then key else sumL (stW 0) key
def keyedL (key all : List Nat) : List Nat := sumL (stW (keyK key).length) (kblk (keyK key) ++ all)
theorem keyedL_len (key all : List Nat) : (keyedL key all).length = 32 := sumL_len _ _
set_option maxHeartbeats 1000000 in
theorem fits_any (a : Option Addr) (n c : Nat) (w : World) : Calls Tryd.prog 71 #[.slice a n c] w fun e w' => e = .returned (.bool (decide (0 < n ∧ n ≤ 32))) ∧ w = w' := by
  by_cases h1 : 0 < n
  · have t1 : (0 : Int) < (n : Int) := by omega
    by_cases h2 : n ≤ 32
    · have t2 : (n : Int) ≤ 32 := by omega
      rw [show decide (0 < n ∧ n ≤ 32) = true by simp [h1, h2]]
      go_enter Tryd.func71, Tryd.ntmps71
      go_wp2_with fail
      go_ret
      exact ⟨rfl, rfl⟩
    · have t2 : ¬ (n : Int) ≤ 32 := by omega
      rw [show decide (0 < n ∧ n ≤ 32) = false by simp [h2]]
      go_enter Tryd.func71, Tryd.ntmps71
      go_wp2_with fail
      go_ret
      exact ⟨rfl, rfl⟩
  · have t1 : ¬ (0 : Int) < (n : Int) := by omega
    rw [show decide (0 < n ∧ n ≤ 32) = false by simp [h1]]
    go_enter Tryd.func71, Tryd.ntmps71
    go_wp2_with fail
    go_ret
    exact ⟨rfl, rfl⟩

set_option maxRecDepth 100000 in
set_option maxHeartbeats 4000000 in
theorem keyed_any (kv : Value) (key : List Nat) (P : List (Value × List Nat)) (v : Value) (w : World) (hT : Tabs w) (hk : Byt w kv key) (hk8 : U8 key) (hkl : key.length ≤ 100000) (hv : LL w v P) (hP8 : ∀ x ∈ P, U8 x.2) (hbig : (flat P).length ≤ 100000000) :
    Calls Tryd.prog 61 #[kv, v] w fun e w' => e = .returned (.agg (bv (keyedL key (flat P))).toArray) ∧ Below w.heap.size w w' := by
  have HP := hide hv
  have HT := hide hT
  have H8 := hide hP8
  have HKY := hide hk
  have HK8' := hide hk8
  obtain ⟨ka, kc, hkv⟩ := byt_shape hk
  obtain ⟨n, hn⟩ : ∃ n, key.length = n := ⟨_, rfl⟩
  rw [hn] at hkv
  subst hkv
  have hz := zero27
  generalize hZ : (bv (List.replicate 32 0)).toArray = Z at hz
  have HZE := hide hZ
  have HZS : Hid (Z.size = 32) := hide (by rw [← hZ, List.size_toArray, bv_len, List.length_replicate])
  have hz5 := zero55
  generalize hZ5 : (dcells (List.replicate 8 0) (List.replicate 64 0) 0 0 false).toArray = Z5 at hz5
  have HZ5 : Hid (Z5.size = 75) := hide (by rw [← hZ5, List.size_toArray]; exact dcells_len _ _ _ _ _ (List.length_replicate ..) (List.length_replicate ..))
  have b1 : Below w.heap.size w (w.alloc (.cells Z 90)) := (Below.refl _ _).alloc (Nat.le_refl _) _
  have HRK : Hid (RowAt (w.alloc (.cells Z 90)) w.heap.size 90 (bv (List.replicate 32 0))) := hide (hZ ▸ RowAt.new w 90 (bv (List.replicate 32 0)))
  have HBK := hide b1
  have HFI := hide (fits_any ka n kc (w.alloc (.cells Z 90)))
  have HN := hide hn
  clear hT hv hP8 hk hk8 hZ hZ5 b1
  by_cases hfit : 0 < n ∧ n ≤ 32
  · have HKE : Hid (keyK key = key) := hide (by rw [keyK, if_pos (by rw [hn]; exact hfit)])
    rw [show decide (0 < n ∧ n ≤ 32) = true by simp [hfit]] at HFI
    have HKV := hide ((unhide HKY).call (unhide HBK))
    have HK32 : Hid (key.length ≤ 32) := hide (by omega)
    have HK8 := HK8'
    clear hn hfit
    go_enter Tryd.func61, Tryd.ntmps61
    go_wp2_with fail
    generalize w.alloc (.cells Z 90) = wk at *
    refine Calls.mono (unhide HFI) ?_
    rintro e wx ⟨rfl, rfl⟩
    have HST := hide (start_any (.slice ka n kc) key wk ((unhide HT).below (unhide HBK)) (unhide HKV) (unhide HK32))
    go_wp2_with fail
    refine Calls.mono (unhide HST) ?_
    rintro e w2 ⟨rfl, b2⟩
    obtain ⟨D, hD⟩ : ∃ D, (dcells (stW (key).length) (padK (key)) (kheld (key)) 0 true).toArray = D := ⟨_, rfl⟩
    have HDS : Hid (D.size = 75) := hide (by rw [← hD, List.size_toArray]; exact dcells_len _ _ _ _ _ (stW_len _) (padK_len _ (by have := unhide HK32; omega)))
    have HDO : Hid (D.all (·.oneCell') = true) := hide (by rw [← hD]; simp [dcells, u32v, bv, Value.oneCell'])
    have R3 := RowAt.new w2 107 (dcells (stW (key).length) (padK (key)) (kheld (key)) 0 true)
    rw [hD] at R3
    have D3 : Dg (w2.alloc (.cells D 107)) w2.heap.size (stW (key).length) (kblk (key)) := start_dg (unhide HK8) (unhide HK32) R3
    rw [hD]
    have hs2 := b2.size
    have hsk := (unhide HRK).lt
    have b3 : Below wk.heap.size wk (w2.alloc (.cells D 107)) := b2.alloc hs2 _
    have B3 : Below w.heap.size w (w2.alloc (.cells D 107)) := (unhide HBK).trans (b3.mono (unhide HBK).size)
    have T3 := (unhide HT).below B3
    have V3 := (unhide HP).call B3
    have HKB : Hid ((kblk (key)).length ≤ 64) := hide (by unfold kblk; split; simp; rw [padK_len _ (by have := unhide HK32; omega)]; omega)
    have HKU : Hid (U8 (kblk (key))) := hide (by unfold kblk; split; (intro y hy; cases hy); exact padK_8 (unhide HK8))
    have HAD := hide (add_all w2.heap.size (stW (key).length) (kblk (key)) P v (w2.alloc (.cells D 107)) T3 (by have := (unhide HT).2.lt; have := (unhide HBK).size; omega) (stW_len _) (stW_32 _ (unhide HK32)) D3 (unhide HKU) V3
      ⟨fun hne => ((unhide HP).far (p := (· = w2.heap.size)) (fun k hk => by have := (unhide HBK).size; omega)).1 hne, ((unhide HP).far (p := (· = w2.heap.size)) (fun k hk => by have := (unhide HBK).size; omega)).2⟩ (unhide H8) (by have := unhide HKB; omega))
    have HB3 := hide B3
    have HR3 := hide ((unhide HRK).below b3 hsk)
    have HW2 : Hid (w.heap.size < w2.heap.size) := hide (by omega)
    clear R3 D3 b2 b3 B3 T3 V3 hD hs2 hsk HST
    go_wp2_with (refine wpList_store_new rfl 107 _ _ rfl D rfl rfl (by rw [z55, unhide HDS]) (by rw [unhide HDS, unhide HZ5]) (unhide HDO) ?_)
    generalize w2.alloc (.cells D 107) = w3 at *
    refine Calls.mono (unhide HAD) ?_
    rintro e w4 ⟨rfl, d4, o4⟩
    have B4 := (unhide HB3).trans (o4.below (unhide HB3).size (fun k hk => by have := unhide HW2; omega))
    have HSM := hide (sum_any w2.heap.size (stW (key).length) (kblk (key) ++ flat P) w4 ((unhide HT).below B4) (stW_len _) (stW_32 _ (unhide HK32)) d4 (by have := unhide HKB; rw [List.length_append]; omega))
    have HR4 := hide ((unhide HR3).only o4 (by have := unhide HW2; omega))
    have HB4 := hide B4
    clear d4 o4 B4 HAD HR3 HB3
    go_wp2_with fail
    refine Calls.mono (unhide HSM) ?_
    rintro e w5 ⟨rfl, b5⟩
    obtain ⟨E, hE⟩ : ∃ E, (bv (sumL (stW (key).length) (kblk (key) ++ flat P))).toArray = E := ⟨_, rfl⟩
    rw [hE]
    have HE2 := hide (((unhide HR4).below b5 (unhide HR4).lt).arr (unhide HZE))
    have HES : Hid (E.size = 32) := hide (by rw [← hE, List.size_toArray, bv_len, sumL_len])
    have HEO : Hid (E.all (·.oneCell') = true) := hide (hE ▸ one_bv _)
    have HEE := hide hE
    have HB5 := hide ((unhide HB4).trans (b5.mono (unhide HB4).size))
    clear b5 HR4 HB4 HSM hE
    go_wp2_with (refine wpList_store_row rfl 90 _ _ rfl w.heap.size E rfl rfl 90 Z (unhide HE2) (by rw [z27, unhide HES]) (by rw [unhide HES, unhide HZS]) (unhide HEO) ?_)
    refine bodyPost_ret (results_cell_row Tryd.results61 _ _ w.heap.size 90 E (0, 0) _ rfl (setRow_heap _ _ _ _ _ _ (unhide HE2)) Tryd.underlying90 rfl (by rw [z27, unhide HES])) rfl ⟨?_, ?_⟩
    · rw [← unhide HEE, keyedL, unhide HKE]
    · exact Below.trans (unhide HB5) ⟨rfl, rfl, rfl, by simp [World.setRow], fun k hk => setRow_other _ _ _ _ (by omega)⟩
  · have HKE : Hid (keyK key = sumL (stW 0) key) := hide (by rw [keyK, if_neg (by rw [hn]; exact hfit)])
    rw [show decide (0 < n ∧ n ≤ 32) = false by simp [hfit]] at HFI
    have HKV := hide ((unhide HKY).call (unhide HBK))
    have L2 := LL.one (unhide HKV)
    have b2 := (unhide HBK).alloc (unhide HBK).size (.cells #[.slice ka n kc] 30)
    have HOF := hide (of_any _ _ _ ((unhide HT).below b2) L2 (fun x hx => by obtain rfl := List.mem_singleton.1 hx; exact unhide HK8') (by simp [flat]; omega))
    have HB2 := hide b2
    have HR2 := hide ((unhide HRK).only (p := fun _ => False) ((Only.refl _ _).alloc (.cells #[.slice ka n kc] 30)) id)
    clear hn hfit L2 b2
    go_enter Tryd.func61, Tryd.ntmps61
    go_wp2_with fail
    generalize w.alloc (.cells Z 90) = w1 at *
    refine Calls.mono (unhide HFI) ?_
    rintro e wx ⟨rfl, rfl⟩
    go_wp2_with fail
    generalize w1.alloc (.cells #[.slice ka n kc] 30) = w2' at *
    refine Calls.mono (unhide HOF) ?_
    rintro e w3' ⟨rfl, b3'⟩
    rw [show flat [(Value.slice ka n kc, key)] = key by simp [flat]]
    obtain ⟨S, hS⟩ : ∃ S, (bv (sumL (stW 0) key)).toArray = S := ⟨_, rfl⟩
    rw [hS]
    have HSS : Hid (S.size = 32) := hide (by rw [← hS, List.size_toArray, bv_len, sumL_len])
    have HSO : Hid (S.all (·.oneCell') = true) := hide (hS ▸ one_bv _)
    have R4 := RowAt.new w3' 90 (bv (sumL (stW 0) key))
    rw [hS] at R4
    have HB4 := hide (((unhide HB2).trans (b3'.mono (unhide HB2).size)).alloc (Nat.le_trans (unhide HB2).size b3'.size) (.cells S 90))
    have HR4 := hide (((unhide HR2).below b3' (unhide HR2).lt).only (p := fun _ => False) ((Only.refl _ _).alloc (.cells S 90)) id)
    have HKV4 : Hid (Byt (w3'.alloc (.cells S 90)) (.slice (some ⟨w3'.heap.size, 0, none⟩) 32 32) (sumL (stW 0) key)) := hide (.inr ⟨⟨w3'.heap.size, 0, none⟩, 32, by rw [sumL_len], by rw [sumL_len]; omega, by unfold maxLen; omega, fun i y hy => by
      rw [add_plain, Nat.zero_add, R4.cell, bv, List.getElem?_map, hy]; rfl⟩)
    have HK32 : Hid ((sumL (stW 0) key).length ≤ 32) := hide (by rw [sumL_len]; omega)
    have HK8 : Hid (U8 (sumL (stW 0) key)) := hide (sumL_8 _ _)
    clear R4 b3' hS HOF HB2 HR2 HBK HRK HKV
    have HBK := HB4
    have HRK := HR4
    have HKV := HKV4
    clear HB4 HR4 HKV4
    go_wp2_with (refine wpList_store_new rfl 90 _ _ rfl S rfl rfl (by rw [z27, unhide HSS]) (by rw [unhide HSS, unhide HZS]) (unhide HSO) ?_)
    obtain ⟨G, hG⟩ : ∃ G, w3'.heap.size = G := ⟨_, rfl⟩
    rw [hG] at HKV ⊢
    generalize w3'.alloc (.cells S 90) = wk at *
    have HST := hide (start_any (.slice (some ⟨G, 0, none⟩) 32 32) (sumL (stW 0) key) wk ((unhide HT).below (unhide HBK)) (unhide HKV) (unhide HK32))
    go_wp2_with fail
    refine Calls.mono (unhide HST) ?_
    rintro e w2 ⟨rfl, b2⟩
    obtain ⟨D, hD⟩ : ∃ D, (dcells (stW (sumL (stW 0) key).length) (padK (sumL (stW 0) key)) (kheld (sumL (stW 0) key)) 0 true).toArray = D := ⟨_, rfl⟩
    have HDS : Hid (D.size = 75) := hide (by rw [← hD, List.size_toArray]; exact dcells_len _ _ _ _ _ (stW_len _) (padK_len _ (by have := unhide HK32; omega)))
    have HDO : Hid (D.all (·.oneCell') = true) := hide (by rw [← hD]; simp [dcells, u32v, bv, Value.oneCell'])
    have R3 := RowAt.new w2 107 (dcells (stW (sumL (stW 0) key).length) (padK (sumL (stW 0) key)) (kheld (sumL (stW 0) key)) 0 true)
    rw [hD] at R3
    have D3 : Dg (w2.alloc (.cells D 107)) w2.heap.size (stW (sumL (stW 0) key).length) (kblk (sumL (stW 0) key)) := start_dg (unhide HK8) (unhide HK32) R3
    rw [hD]
    have hs2 := b2.size
    have hsk := (unhide HRK).lt
    have b3 : Below wk.heap.size wk (w2.alloc (.cells D 107)) := b2.alloc hs2 _
    have B3 : Below w.heap.size w (w2.alloc (.cells D 107)) := (unhide HBK).trans (b3.mono (unhide HBK).size)
    have T3 := (unhide HT).below B3
    have V3 := (unhide HP).call B3
    have HKB : Hid ((kblk (sumL (stW 0) key)).length ≤ 64) := hide (by unfold kblk; split; simp; rw [padK_len _ (by have := unhide HK32; omega)]; omega)
    have HKU : Hid (U8 (kblk (sumL (stW 0) key))) := hide (by unfold kblk; split; (intro y hy; cases hy); exact padK_8 (unhide HK8))
    have HAD := hide (add_all w2.heap.size (stW (sumL (stW 0) key).length) (kblk (sumL (stW 0) key)) P v (w2.alloc (.cells D 107)) T3 (by have := (unhide HT).2.lt; have := (unhide HBK).size; omega) (stW_len _) (stW_32 _ (unhide HK32)) D3 (unhide HKU) V3
      ⟨fun hne => ((unhide HP).far (p := (· = w2.heap.size)) (fun k hk => by have := (unhide HBK).size; omega)).1 hne, ((unhide HP).far (p := (· = w2.heap.size)) (fun k hk => by have := (unhide HBK).size; omega)).2⟩ (unhide H8) (by have := unhide HKB; omega))
    have HB3 := hide B3
    have HR3 := hide ((unhide HRK).below b3 hsk)
    have HW2 : Hid (w.heap.size < w2.heap.size) := hide (by omega)
    clear R3 D3 b2 b3 B3 T3 V3 hD hs2 hsk HST
    go_wp2_with (refine wpList_store_new rfl 107 _ _ rfl D rfl rfl (by rw [z55, unhide HDS]) (by rw [unhide HDS, unhide HZ5]) (unhide HDO) ?_)
    generalize w2.alloc (.cells D 107) = w3 at *
    refine Calls.mono (unhide HAD) ?_
    rintro e w4 ⟨rfl, d4, o4⟩
    have B4 := (unhide HB3).trans (o4.below (unhide HB3).size (fun k hk => by have := unhide HW2; omega))
    have HSM := hide (sum_any w2.heap.size (stW (sumL (stW 0) key).length) (kblk (sumL (stW 0) key) ++ flat P) w4 ((unhide HT).below B4) (stW_len _) (stW_32 _ (unhide HK32)) d4 (by have := unhide HKB; rw [List.length_append]; omega))
    have HR4 := hide ((unhide HR3).only o4 (by have := unhide HW2; omega))
    have HB4 := hide B4
    clear d4 o4 B4 HAD HR3 HB3
    go_wp2_with fail
    refine Calls.mono (unhide HSM) ?_
    rintro e w5 ⟨rfl, b5⟩
    obtain ⟨E, hE⟩ : ∃ E, (bv (sumL (stW (sumL (stW 0) key).length) (kblk (sumL (stW 0) key) ++ flat P))).toArray = E := ⟨_, rfl⟩
    rw [hE]
    have HE2 := hide (((unhide HR4).below b5 (unhide HR4).lt).arr (unhide HZE))
    have HES : Hid (E.size = 32) := hide (by rw [← hE, List.size_toArray, bv_len, sumL_len])
    have HEO : Hid (E.all (·.oneCell') = true) := hide (hE ▸ one_bv _)
    have HEE := hide hE
    have HB5 := hide ((unhide HB4).trans (b5.mono (unhide HB4).size))
    clear b5 HR4 HB4 HSM hE
    go_wp2_with (refine wpList_store_row rfl 90 _ _ rfl w.heap.size E rfl rfl 90 Z (unhide HE2) (by rw [z27, unhide HES]) (by rw [unhide HES, unhide HZS]) (unhide HEO) ?_)
    refine bodyPost_ret (results_cell_row Tryd.results61 _ _ w.heap.size 90 E (0, 0) _ rfl (setRow_heap _ _ _ _ _ _ (unhide HE2)) Tryd.underlying90 rfl (by rw [z27, unhide HES])) rfl ⟨?_, ?_⟩
    · rw [← unhide HEE, keyedL, unhide HKE]
    · exact Below.trans (unhide HB5) ⟨rfl, rfl, rfl, by simp [World.setRow], fun k hk => setRow_other _ _ _ _ (by omega)⟩
end Go.Proofs.YtbnfilhilgjnfaaDoor
