/- A log's roots; a log made of entries. -/
import Derived.Test.YtonkgiiacholeaaDoorADgst
namespace Go.Proofs.YtonkgiiacholeaaDoor
set_option linter.unusedVariables false
set_option linter.unusedSimpArgs false
open Go.ChangeShapes Go.WideShapes Go.ChangeAt Go.RowKit Go.Joins

set_option maxRecDepth 100000 in
set_option maxHeartbeats 8000000 in
theorem Root_ok (g : Nat) (E : List (List Nat)) (τ : Nat → Int) (n : Nat) (w : World) (hT : Tabs w) (hL : LogAt w τ g E) (hE : E.length ≤ 1000) (hn : n ≤ E.length) :
    Calls Tryd.prog 25 #[.pointer (some ⟨g, 0, none⟩), .int .i64 (n : Int)] w fun e w' => e = .returned (.tuple #[.agg (bv (digL (E.take n))).toArray, .int .i64 0]) ∧ Below w.heap.size w w' := by
  have hz := zero27
  generalize hZ : (bv (List.replicate 32 0)).toArray = Z at hz
  have HZE := hide hZ
  have HZS : Hid (Z.size = 32) := hide (by rw [← hZ, List.size_toArray, bv_len, List.length_replicate])
  have b1 : Below w.heap.size w (w.alloc (.cells Z 43)) := (Below.refl _ _).alloc (Nat.le_refl _) _
  have HR1 : Hid (RowAt (w.alloc (.cells Z 43)) w.heap.size 43 (bv (List.replicate 32 0))) := hide (hZ ▸ RowAt.new w 43 (bv (List.replicate 32 0)))
  have HB1 := hide b1
  have hL1 := hL.call b1
  have HM := hide (let ⟨ev, hv, h⟩ := hL1.row; lmade_any g true ev hv _ h)
  have HLN := hide (len_log g E τ _ hL1)
  obtain ⟨m, hm⟩ : ∃ m, E.length = m := ⟨_, rfl⟩
  rw [hm] at hn HLN
  have m1 : (m : Int) ≤ 1000 := by omega
  have n1 : ¬ (m : Int) < (n : Int) := by omega
  have n0 : ¬ (n : Int) < 0 := by omega
  by_cases hz0 : n = 0
  · subst hz0
    have HNO := hide (nothing_any _ (hT.below b1))
    have HNE : Hid (noneL = digL (E.take 0)) := hide (by rw [List.take_zero, digL_nil])
    clear hT hL hL1 b1 hZ hE hm hn
    go_enter Tryd.func25, Tryd.ntmps25
    go_wp2_with fail
    generalize w.alloc (.cells Z 43) = w1 at *
    refine Calls.mono (unhide HM) ?_
    rintro e w2 ⟨rfl, rfl⟩
    go_wp2_with fail
    refine Calls.mono (unhide HLN) ?_
    rintro e w2 ⟨rfl, rfl⟩
    go_wp2_with fail
    refine Calls.mono (unhide HNO) ?_
    rintro e w5 ⟨rfl, b5⟩
    rw [unhide HNE]
    obtain ⟨EE, hEE⟩ : ∃ X, (bv (digL (E.take 0))).toArray = X := ⟨_, rfl⟩
    rw [hEE]
    have HE2 := hide (((unhide HR1).below b5 (unhide HR1).lt).arr (unhide HZE))
    have HES : Hid (EE.size = 32) := hide (by rw [← hEE, List.size_toArray, bv_len, digL_len])
    have HEO : Hid (EE.all (·.oneCell') = true) := hide (hEE ▸ one_bv _)
    have HEE := hide hEE
    have HB5 := hide ((unhide HB1).trans (b5.mono (unhide HB1).size))
    clear b5 hEE HNO
    go_wp2_with (refine wpList_store_row rfl 43 _ _ rfl w.heap.size EE rfl rfl 43 Z (unhide HE2) (by rw [z27, unhide HES]) (by rw [unhide HES, unhide HZS]) (unhide HEO) ?_)
    refine bodyPost_ret (results_row_tmp Tryd.results25 _ _ w.heap.size 43 EE (0, 0) _ rfl (setRow_heap _ _ _ _ _ _ (unhide HE2)) Tryd.underlying43 rfl (by rw [z27, unhide HES])) rfl ⟨?_, ?_⟩
    · rw [← unhide HEE]; rfl
    · exact Below.trans (unhide HB5) ⟨rfl, rfl, rfl, by simp [World.setRow], fun k hk => setRow_other _ _ _ _ (by omega)⟩
  · have hz1 : ((n : Int) == 0) = false := beq_eq_false_iff_ne.2 (by omega)
    have HDG := hide (digest_log g E τ hE n 0 _ (hT.below b1) hL1 (by omega) (by omega) (Al.zero n))
    rw [cutE_zero] at HDG
    clear hT hL hL1 b1 hZ hE hm hn hz0
    go_enter Tryd.func25, Tryd.ntmps25
    go_wp2_with fail
    generalize w.alloc (.cells Z 43) = w1 at *
    refine Calls.mono (unhide HM) ?_
    rintro e w2 ⟨rfl, rfl⟩
    go_wp2_with fail
    refine Calls.mono (unhide HLN) ?_
    rintro e w2 ⟨rfl, rfl⟩
    go_wp2_with fail
    refine Calls.mono (unhide HDG) ?_
    rintro e w5 ⟨rfl, b5⟩
    obtain ⟨EE, hEE⟩ : ∃ X, (bv (digL (E.take n))).toArray = X := ⟨_, rfl⟩
    rw [hEE]
    have HE2 := hide (((unhide HR1).below b5 (unhide HR1).lt).arr (unhide HZE))
    have HES : Hid (EE.size = 32) := hide (by rw [← hEE, List.size_toArray, bv_len, digL_len])
    have HEO : Hid (EE.all (·.oneCell') = true) := hide (hEE ▸ one_bv _)
    have HEE := hide hEE
    have HB5 := hide ((unhide HB1).trans (b5.mono (unhide HB1).size))
    clear b5 hEE HDG
    go_wp2_with (refine wpList_store_row rfl 43 _ _ rfl w.heap.size EE rfl rfl 43 Z (unhide HE2) (by rw [z27, unhide HES]) (by rw [unhide HES, unhide HZS]) (unhide HEO) ?_)
    refine bodyPost_ret (results_row_tmp Tryd.results25 _ _ w.heap.size 43 EE (0, 0) _ rfl (setRow_heap _ _ _ _ _ _ (unhide HE2)) Tryd.underlying43 rfl (by rw [z27, unhide HES])) rfl ⟨?_, ?_⟩
    · rw [← unhide HEE]; rfl
    · exact Below.trans (unhide HB5) ⟨rfl, rfl, rfl, by simp [World.setRow], fun k hk => setRow_other _ _ _ _ (by omega)⟩
set_option maxRecDepth 100000 in
set_option maxHeartbeats 8000000 in
theorem Root_bad (g : Nat) (E : List (List Nat)) (τ : Nat → Int) (n : Int) (w : World) (hL : LogAt w τ g E) (hE : E.length ≤ 1000) (hn : n < 0 ∨ (E.length : Int) < n) :
    Calls Tryd.prog 25 #[.pointer (some ⟨g, 0, none⟩), .int .i64 n] w fun e w' => e = .returned (.tuple #[.agg (bv (List.replicate 32 0)).toArray, .int .i64 1]) ∧ Below w.heap.size w w' := by
  have hz := zero27
  generalize hZ : (bv (List.replicate 32 0)).toArray = Z at hz
  have HZE := hide hZ
  have HZS : Hid (Z.size = 32) := hide (by rw [← hZ, List.size_toArray, bv_len, List.length_replicate])
  have b1 : Below w.heap.size w (w.alloc (.cells Z 43)) := (Below.refl _ _).alloc (Nat.le_refl _) _
  have HR1 : Hid (RowAt (w.alloc (.cells Z 43)) w.heap.size 43 (bv (List.replicate 32 0))) := hide (hZ ▸ RowAt.new w 43 (bv (List.replicate 32 0)))
  have HB1 := hide b1
  have hL1 := hL.call b1
  have HM := hide (let ⟨ev, hv, h⟩ := hL1.row; lmade_any g true ev hv _ h)
  have HLN := hide (len_log g E τ _ hL1)
  obtain ⟨m, hm⟩ : ∃ m, E.length = m := ⟨_, rfl⟩
  rw [hm] at hn HLN
  have HE2 := hide ((unhide HR1).arr hZ)
  have HEO : Hid (Z.all (·.oneCell') = true) := hide (hZ ▸ one_bv _)
  by_cases h0 : n < 0
  · clear hL hL1 b1 hZ hE hm hn
    go_enter Tryd.func25, Tryd.ntmps25
    go_wp2_with fail
    generalize w.alloc (.cells Z 43) = w1 at *
    refine Calls.mono (unhide HM) ?_
    rintro e w2 ⟨rfl, rfl⟩
    go_wp2_with (refine wpList_store_row rfl 43 _ _ rfl w.heap.size Z rfl rfl 43 Z (unhide HE2) (by rw [z27, unhide HZS]) rfl (unhide HEO) ?_)
    refine bodyPost_ret (results_row_tmp Tryd.results25 _ _ w.heap.size 43 Z (0, 0) _ rfl (setRow_heap _ _ _ _ _ _ (unhide HE2)) Tryd.underlying43 rfl (by rw [z27, unhide HZS])) rfl ⟨rfl, ?_⟩
    exact Below.trans (unhide HB1) ⟨rfl, rfl, rfl, by simp [World.setRow], fun k hk => setRow_other _ _ _ _ (by omega)⟩
  · have h1 : (m : Int) < n := by omega
    clear hL hL1 b1 hZ hE hm hn
    go_enter Tryd.func25, Tryd.ntmps25
    go_wp2_with fail
    generalize w.alloc (.cells Z 43) = w1 at *
    refine Calls.mono (unhide HM) ?_
    rintro e w2 ⟨rfl, rfl⟩
    go_wp2_with fail
    refine Calls.mono (unhide HLN) ?_
    rintro e w2 ⟨rfl, rfl⟩
    go_wp2_with (refine wpList_store_row rfl 43 _ _ rfl w.heap.size Z rfl rfl 43 Z (unhide HE2) (by rw [z27, unhide HZS]) rfl (unhide HEO) ?_)
    refine bodyPost_ret (results_row_tmp Tryd.results25 _ _ w.heap.size 43 Z (0, 0) _ rfl (setRow_heap _ _ _ _ _ _ (unhide HE2)) Tryd.underlying43 rfl (by rw [z27, unhide HZS])) rfl ⟨rfl, ?_⟩
    exact Below.trans (unhide HB1) ⟨rfl, rfl, rfl, by simp [World.setRow], fun k hk => setRow_other _ _ _ _ (by omega)⟩
set_option maxRecDepth 100000 in
set_option maxHeartbeats 8000000 in
theorem root_ok (g : Nat) (E : List (List Nat)) (τ : Nat → Int) (n : Nat) (w : World) (hT : Tabs w) (hL : LogAt w τ g E) (hE : E.length ≤ 1000) (hn : n ≤ E.length) :
    Calls Tryd.prog 30 #[.pointer (some ⟨g, 0, none⟩), .int .i64 (n : Int)] w fun e w' => e = .returned (.agg (bv (digL (E.take n))).toArray) ∧ Below w.heap.size w w' := by
  have hz := zero27
  generalize hZ : (bv (List.replicate 32 0)).toArray = Z at hz
  have HZE := hide hZ
  have HZS : Hid (Z.size = 32) := hide (by rw [← hZ, List.size_toArray, bv_len, List.length_replicate])
  have b1 : Below w.heap.size w (w.alloc (.cells Z 43)) := (Below.refl _ _).alloc (Nat.le_refl _) _
  have HR1 : Hid (RowAt (w.alloc (.cells Z 43)) w.heap.size 43 (bv (List.replicate 32 0))) := hide (hZ ▸ RowAt.new w 43 (bv (List.replicate 32 0)))
  have HB1 := hide b1
  have HRT := hide (Root_ok g E τ n _ (hT.below b1) (hL.call b1) hE hn)
  obtain ⟨D, hD⟩ : ∃ D, digL (E.take n) = D := ⟨_, rfl⟩
  have HDL : Hid (D.length = 32) := hide (by rw [← hD, digL_len])
  rw [hD] at HRT ⊢
  clear hT hL b1 hZ hE hn hD
  go_enter Tryd.func30, Tryd.ntmps30
  go_wp2_with fail
  generalize w.alloc (.cells Z 43) = w1 at *
  refine Calls.mono (unhide HRT) ?_
  rintro e w2 ⟨rfl, b2⟩
  obtain ⟨A, hA⟩ : ∃ A, (bv D).toArray = A := ⟨_, rfl⟩
  rw [hA]
  have HAS : Hid (A.size = 32) := hide (by rw [← hA, List.size_toArray, bv_len, unhide HDL])
  have HAO : Hid (A.all (·.oneCell') = true) := hide (hA ▸ one_bv _)
  have b5 : Below w.heap.size w (w2.alloc (.cells A 43)) := (unhide HB1).trans ((b2.mono (unhide HB1).size).alloc (Nat.le_trans (unhide HB1).size b2.size) _)
  have HB5 := hide b5
  have HE1 : Hid ((w2.alloc (.cells A 43)).heap[w2.heap.size]? = some (.cells A 43)) := hide (heap_alloc_new _ _)
  have HE2 : Hid ((w2.alloc (.cells A 43)).heap[w.heap.size]? = some (.cells Z 43)) := hide (RowAt.arr (RowAt.below (unhide HR1) (b2.alloc b2.size _) (unhide HR1).lt) (unhide HZE))
  have HAA := hide hA
  clear b5 b2 hA
  go_wp2_with (first
    | (refine wpList_store_new rfl 43 _ _ rfl A rfl rfl (by rw [z27, unhide HAS]) (by rw [unhide HAS, unhide HZS]) (unhide HAO) ?_)
    | (refine wpList_load_row rfl 43 _ rfl w2.heap.size (by kernel_rfl) 43 A (0, 0) _ (unhide HE1) Tryd.underlying43 rfl (by rw [z27, unhide HAS]) ?_)
    | (refine wpList_store_row rfl 43 _ _ rfl w.heap.size A rfl rfl 43 Z (unhide HE2) (by rw [z27, unhide HAS]) (by rw [unhide HAS, unhide HZS]) (unhide HAO) ?_))
  refine bodyPost_ret (results_cell_row Tryd.results30 _ _ w.heap.size 43 A (0, 0) _ rfl (setRow_heap _ _ _ _ _ _ (unhide HE2)) Tryd.underlying43 rfl (by rw [z27, unhide HAS])) rfl ⟨by rw [unhide HAA], ?_⟩
  exact Below.trans (unhide HB5) ⟨rfl, rfl, rfl, by simp [World.setRow], fun k hk => setRow_other _ _ _ _ (by omega)⟩
set_option maxRecDepth 100000 in
set_option maxHeartbeats 8000000 in
theorem made_log (R : List (Value × List Nat)) (v : Value) (w : World) (hT : Tabs w) (hv : LL w v R) (hR8 : ∀ x ∈ R, U8 x.2) (hRl : ∀ x ∈ R, x.2.length ≤ 100000) (hn : R.length ≤ 1000) :
    Calls Tryd.prog 22 #[v] w fun e w' => e = .returned (.pointer (some ⟨w.heap.size, 0, none⟩)) ∧ ∃ τ : Nat → Int, LogAt w' τ w.heap.size (R.map (·.2)) ∧ (∀ k, k < w.heap.size → τ k = -1) ∧ Below w.heap.size w w' := by
  have b1 : Below w.heap.size w (w.alloc (.cells #[.bool true, .slice none 0 0, .slice none 0 0] 69)) := (Below.refl _ _).alloc (Nat.le_refl _) _
  have hfar : LF v R (fun k => (if k = w.heap.size then (0 : Int) else -1) ≠ -1) := hv.far (fun k hk => by
    by_cases e : k = w.heap.size
    · omega
    · exact absurd (if_neg e) hk)
  have HAD := hide (add_log w.heap.size [] (fun k => if k = w.heap.size then 0 else -1) R v _ (hT.below b1) (fun k hk => by
    by_cases e : k = w.heap.size
    · have := hT.two; omega
    · exact absurd (if_neg e) hk) (log_new w) (hv.call b1) hfar hR8 hRl (by simpa using hn))
  have HNW := hide (new_log w)
  have HB1 := hide b1
  obtain ⟨va, vc, rfl, _⟩ := hv
  clear hT hR8 hRl hn b1 hfar
  go_enter Tryd.func22, Tryd.ntmps22
  go_wp2_with fail
  refine Calls.mono (unhide HNW) ?_
  rintro e w2 ⟨rfl, rfl⟩
  go_wp2_with fail
  refine Calls.mono (unhide HAD) ?_
  rintro e w3 ⟨rfl, τ, h1, h2, h3⟩
  have HF : Hid (∃ τ : Nat → Int, LogAt w3 τ w.heap.size (R.map (·.2)) ∧ (∀ k, k < w.heap.size → τ k = -1) ∧ Below w.heap.size w w3) := hide ⟨τ, by simpa using h1, fun k hk => by rw [h2 k (by rw [size_alloc]; omega)]; exact if_neg (by omega), (unhide HB1).trans (h3.below (by rw [size_alloc]; omega) (fun k hk => by
    by_cases e : k = w.heap.size
    · omega
    · exact absurd (if_neg e) hk))⟩
  clear h1 h2 h3 HAD
  go_wp2_with fail
  go_ret
  exact ⟨rfl, unhide HF⟩
end Go.Proofs.YtonkgiiacholeaaDoor
