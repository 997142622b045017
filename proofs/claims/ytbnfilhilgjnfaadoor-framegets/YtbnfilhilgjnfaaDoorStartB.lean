/- A digest that begins, with a key or without. -/
import Derived.Test.YtbnfilhilgjnfaaDoorStart
namespace Go.Proofs.YtbnfilhilgjnfaaDoor
set_option linter.unusedVariables false
set_option linter.unusedSimpArgs false
open Go.ChangeShapes Go.WideShapes Go.ChangeAt Go.RowKit

set_option maxRecDepth 100000 in
set_option maxHeartbeats 4000000 in
theorem start_any (v : Value) (key : List Nat) (w : World) (hT : Tabs w) (hv : Byt w v key) (hk : key.length ≤ 32) :
    Calls Tryd.prog 73 #[v] w fun e w' => e = .returned (.agg (dcells (stW key.length) (padK key) (kheld key) 0 true).toArray) ∧ Below w.heap.size w w' := by
  have HV := hide hv
  obtain ⟨a, cap, rfl⟩ := byt_shape hv
  obtain ⟨k, hk0⟩ : ∃ k, key.length = k := ⟨_, rfl⟩
  rw [hk0] at hk HV ⊢
  have HK := hide hk0
  have HT := hide hT
  have hz := zero55
  generalize hZ : (dcells (List.replicate 8 0) (List.replicate 64 0) 0 0 false).toArray = Z at hz
  have HSS := hide (startState_any k (w.alloc (.cells Z 107)) (hT.below ((Below.refl _ _).alloc (Nat.le_refl _) _)) hk)
  clear hv hT hk0
  go_enter Tryd.func73, Tryd.ntmps73
  go_wp2_with fail
  refine Calls.mono (unhide HSS) ?_
  rintro e w1 ⟨rfl, b1⟩
  obtain ⟨S, hS⟩ : ∃ S, (u32v (stW k)).toArray = S := ⟨_, rfl⟩
  obtain ⟨D, hD⟩ : ∃ D, (dcells (stW k) (List.replicate 64 0) 0 0 true).toArray = D := ⟨_, rfl⟩
  have hZs : Z.size = 75 := by rw [← hZ, List.size_toArray]; exact dcells_len _ _ _ _ _ (List.length_replicate ..) (List.length_replicate ..)
  have hSs : S.size = 8 := by rw [← hS]; rfl
  have hfold : (Array.foldl (fun cs (x : Value × Nat) => cs.setIfInBounds x.snd x.fst) Z S.zipIdx 0 8).setIfInBounds 74 (.bool true) = D := by rw [← hS, ← hZ, ← hD]; exact fold55 _
  have HDZ : Hid (D.size = 75) := hide (by rw [← hD, List.size_toArray]; exact dcells_len _ _ _ _ _ (stW_len k) (List.length_replicate ..))
  have hfs : (Array.foldl (fun cs (x : Value × Nat) => cs.setIfInBounds x.snd x.fst) Z S.zipIdx 0 8).size = 75 := by
    have h := congrArg Array.size hfold
    rw [Array.size_setIfInBounds] at h
    rw [h]; exact unhide HDZ
  have HZZ : Hid (Z.size = 75) := hide (by rw [← hZ, List.size_toArray]; exact dcells_len _ _ _ _ _ (List.length_replicate ..) (List.length_replicate ..))
  have HD1 : Hid (D.all (·.oneCell') = true) := hide (by rw [← hD]; simp [dcells, u32v, bv, Value.oneCell'])
  have R1 := RowAt.new w1 107 (dcells (stW k) (List.replicate 64 0) 0 0 true)
  rw [hD] at R1
  rw [hS]
  have hs1 := b1.size
  rw [size_alloc] at hs1
  have RZ : RowAt (w.alloc (.cells Z 107)) w.heap.size 107 (dcells (List.replicate 8 0) (List.replicate 64 0) 0 0 false) := hZ ▸ RowAt.new w 107 _
  have RZ1 : RowAt (w1.alloc (.cells D 107)) w.heap.size 107 (dcells (List.replicate 8 0) (List.replicate 64 0) 0 0 false) := (RZ.below b1 RZ.lt).only (p := fun _ => False) ((Only.refl _ _).alloc _) id
  have B1 : Below w.heap.size w (w1.alloc (.cells D 107)) := ((((Below.refl _ _).alloc (Nat.le_refl _) _).trans (b1.mono (by rw [size_alloc]; omega)))).alloc (by omega) _
  have hg1 : w.heap.size < w1.heap.size := by omega
  obtain ⟨W2, hcopy, R2, O2⟩ : ∃ W2, (∀ ty, (Builtin.copy_ #[30, 30] ty #[.slice (some ⟨w1.heap.size, 8, none⟩) 64 64, .slice a k cap]).run Tryd.prog (w1.alloc (.cells D 107)) = .ok (goInt k) W2) ∧ RowAt W2 w1.heap.size 107 (dcells (stW k) (padK key) 0 0 true) ∧ Only (· = w1.heap.size) (w1.alloc (.cells D 107)) W2 := by
    rcases (unhide HV).call B1 with ⟨hv1, hv2⟩ | ⟨ad, cap', hv1, h1, h2, h3⟩
    · injection hv1 with e1 e2 e3
      subst e1 e2 e3 hv2
      exact ⟨_, fun ty => run_copy_none _ 30 30 ty 5 _ _ _ _ _ _ Tryd.underlying30 z5 (by simp), by simpa [padK] using R1, Only.refl _ _⟩
    · injection hv1 with e1 e2 e3
      subst e1 e3
      have hkl := unhide HK
      refine ⟨(w1.alloc (.cells D 107)).setCells w1.heap.size 8 (bv key), fun ty => ?_, ?_⟩
      · have := run_copy_cells (P := Tryd.prog) (w1.alloc (.cells D 107)) 30 30 ty 5 w1.heap.size 8 64 64 ad k cap (bv key) Tryd.underlying30 z5 (by rw [bv_len, hkl]; simp only [Nat.min_def]; split <;> omega)
          (fun i u hi => by
            rw [bv, List.getElem?_map] at hi
            obtain ⟨y, hy, rfl⟩ := Option.map_eq_some_iff.1 hi
            exact h3 i y hy)
          (fun i hi => by rw [bv_len, hkl] at hi; rw [R1.cell, List.getElem?_eq_getElem (by rw [dcells_len _ _ _ _ _ (stW_len k) (List.length_replicate ..)]; omega)]; rfl)
          (fun i hi => R1.frozen _) (fun u hu => one_bv' hu)
        rw [bv_len, hkl] at this
        exact this
      · obtain ⟨e1, e2⟩ := RowAt.setCells (bv key) 8 _ _ R1 (by rw [bv_len, hkl, dcells_len _ _ _ _ _ (stW_len k) (List.length_replicate ..)]; omega)
        have e3 := dcells_put (stW k) (List.replicate 64 0) key 0 0 0 true (stW_len k) (by rw [List.length_replicate]; omega)
        rw [Nat.add_zero] at e3
        rw [e3] at e1
        have e4 : putL (List.replicate 64 0) 0 key = padK key := by
          rw [putL, padK, List.take_zero, List.nil_append, Nat.zero_add, List.drop_replicate]
        rw [e4] at e1
        exact ⟨e1, e2⟩
  have HR2 := hide R2
  have HRZ2 := hide (RZ1.only O2 (by omega))
  have HB2 := hide (B1.trans (O2.below (by rw [size_alloc]; omega) (fun k hk => by omega)))
  have HPL : Hid ((padK key).length = 64) := hide (padK_len key (by have := unhide HK; omega))
  have c72 := (R2.cell 72).trans (dcells_get (held := 0) (folded := 0) (made := true) (stW_len k) (unhide HPL)).1
  have f72 := R2.frozen 72
  have HGG := hide hg1
  clear b1 hS hD R1 RZ RZ1 B1 O2 R2 hs1 hg1 HSS HT HV
  by_cases hk0 : k = 0
  · have hkI : ¬ (0 : Int) < (k : Int) := by omega
    have HK0 := hide hk0
    clear hk0
    obtain ⟨E, hE⟩ : ∃ E, (dcells (stW k) (padK key) 0 0 true).toArray = E := ⟨_, rfl⟩
    have HE1 := hide ((unhide HR2).arr hE)
    have HE2 := hide ((unhide HRZ2).arr hZ)
    have HES : Hid (E.size = 75) := hide (by rw [← hE, List.size_toArray]; exact dcells_len _ _ _ _ _ (stW_len k) (unhide HPL))
    have HEO : Hid (E.all (·.oneCell') = true) := hide (by rw [← hE]; simp [dcells, u32v, bv, Value.oneCell'])
    have HEE := hide hE
    clear hE c72 f72 hZ
    go_wp2_with (first
      | (refine wpList_store_new rfl 107 _ _ rfl D rfl rfl (by rw [z55, unhide HDZ]) (by rw [unhide HDZ, unhide HZZ]) (unhide HD1) ?_)
      | (refine wpList_load_row rfl 107 _ rfl w1.heap.size rfl 107 E (0, 0) _ (unhide HE1) Tryd.underlying107 rfl (by rw [z55, unhide HES]) ?_)
      | (refine wpList_store_row rfl 107 _ _ rfl w.heap.size E rfl rfl 107 Z (unhide HE2) (by rw [z55, unhide HES]) (by rw [unhide HES, unhide HZZ]) (unhide HEO) ?_))
    refine bodyPost_ret (results_cell_row Tryd.results73 _ _ w.heap.size 107 E (0, 0) _ rfl (setRow_heap _ _ _ _ _ _ (unhide HE2)) Tryd.underlying107 rfl (by rw [z55, unhide HES])) rfl ⟨?_, ?_⟩
    · rw [← unhide HEE, show kheld key = 0 by unfold kheld; rw [if_pos (List.length_eq_zero_iff.1 ((unhide HK).trans (unhide HK0)))]]
    · exact Below.trans (unhide HB2) ⟨rfl, rfl, rfl, by simp [World.setRow], fun k hk => setRow_other _ _ _ _ (by omega)⟩
  · have hkI : (0 : Int) < (k : Int) := by omega
    have HK0 := hide hk0
    clear hk0
    have R3 := (unhide HR2).set 72 (.int .i64 (64 : Int))
    have e64 := dcells_set_held (stW k) (padK key) 0 64 0 true (stW_len k) (unhide HPL)
    have R3' : RowAt (W2.setCell ⟨w1.heap.size, 72, none⟩ (.int .i64 64)) w1.heap.size 107 (dcells (stW k) (padK key) 64 0 true) := by rw [← e64]; exact R3
    have O3 := Only.set (Only.refl (· = w1.heap.size) W2) w1.heap.size 72 (.int .i64 (64 : Int)) rfl
    obtain ⟨E, hE⟩ : ∃ E, (dcells (stW k) (padK key) 64 0 true).toArray = E := ⟨_, rfl⟩
    have HE1 := hide (R3'.arr hE)
    have HE2 := hide (((unhide HRZ2).only O3 (by have := unhide HGG; omega)).arr hZ)
    have HB3 := hide ((unhide HB2).trans (O3.below (unhide HB2).size (fun k hk => by have := unhide HGG; omega)))
    have HES : Hid (E.size = 75) := hide (by rw [← hE, List.size_toArray]; exact dcells_len _ _ _ _ _ (stW_len k) (unhide HPL))
    have HEO : Hid (E.all (·.oneCell') = true) := hide (by rw [← hE]; simp [dcells, u32v, bv, Value.oneCell'])
    have HEE := hide hE
    clear hE hZ R3 R3' e64 O3
    go_wp2_with (first
      | (refine wpList_store_new rfl 107 _ _ rfl D rfl rfl (by rw [z55, unhide HDZ]) (by rw [unhide HDZ, unhide HZZ]) (unhide HD1) ?_)
      | (refine wpList_load_row rfl 107 _ rfl w1.heap.size rfl 107 E (0, 0) _ (unhide HE1) Tryd.underlying107 rfl (by rw [z55, unhide HES]) ?_)
      | (refine wpList_store_row rfl 107 _ _ rfl w.heap.size E rfl rfl 107 Z (unhide HE2) (by rw [z55, unhide HES]) (by rw [unhide HES, unhide HZZ]) (unhide HEO) ?_))
    refine bodyPost_ret (results_cell_row Tryd.results73 _ _ w.heap.size 107 E (0, 0) _ rfl (setRow_heap _ _ _ _ _ _ (unhide HE2)) Tryd.underlying107 rfl (by rw [z55, unhide HES])) rfl ⟨?_, ?_⟩
    · rw [← unhide HEE, show kheld key = 64 by unfold kheld; rw [if_neg (fun e => unhide HK0 ((unhide HK).symm.trans (by rw [e]; rfl)))]]
    · exact Below.trans (unhide HB3) ⟨rfl, rfl, rfl, by simp [World.setRow], fun k hk => setRow_other _ _ _ _ (by omega)⟩
end Go.Proofs.YtbnfilhilgjnfaaDoor
