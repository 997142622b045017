/- The document's own Open, where the sum is there. -/
import Derived.Test.YtbahnkomdndmkacDoorRefOpen
import Derived.Test.YtbahnkomdndmkacDoorAwake
namespace Go.Proofs.YtbahnkomdndmkacDoor
set_option linter.unusedVariables false
set_option linter.unusedSimpArgs false
open Go.ChangeShapes Go.WideShapes Go.ChangeAt Go.RowKit

theorem take_byt0 {w : World} {a : Option Addr} {n cap k : Nat} {l : List Nat} (h : Byt w (.slice a n cap) l) (hk : k ≤ n) : Byt w (.slice a k cap) (l.take k) := by
  have hln := byt_len h
  rcases h with ⟨h, rfl⟩ | ⟨a0, cap0, h, h1, h2, h3⟩
  · injection h with e1 e2 e3
    subst e1 e2 e3
    obtain rfl : k = 0 := by omega
    exact .inl ⟨rfl, rfl⟩
  · injection h with e1 e2 e3
    subst e1 e3
    refine .inr ⟨a0, cap, by rw [List.length_take, Nat.min_eq_left (by omega)], by rw [List.length_take]; omega, h2, fun i y hy => h3 i y ?_⟩
    rw [List.getElem?_take] at hy
    split at hy
    · exact hy
    · cases hy

theorem strOf_inj {l m : List Nat} (hl : ∀ y ∈ l, y < 256) (hm : ∀ y ∈ m, y < 256) (h : strOf l = strOf m) : l = m := by
  have h1 : l.map UInt8.ofNat = m.map UInt8.ofNat := by
    have := congrArg (fun s : ByteArray => s.data.toList) h
    simpa [strOf] using this
  have back : ∀ (x : List Nat), (∀ y ∈ x, y < 256) → (x.map UInt8.ofNat).map UInt8.toNat = x := by
    intro x hx
    rw [List.map_map]
    conv => rhs; rw [← List.map_id x]
    refine List.map_congr_left fun y hy => ?_
    simp only [Function.comp, id, UInt8.toNat_ofNat']
    have := hx y hy
    omega
  rw [← back l hl, ← back m hm, h1]
theorem strOf_ne {l m : List Nat} (hl : ∀ y ∈ l, y < 256) (hm : ∀ y ∈ m, y < 256) (h : l ≠ m) : ((strOf l).toList == (strOf m).toList) = false := by
  rw [← Go.beq_toListBytes]
  have h2 : strOf l ≠ strOf m := fun e => h (strOf_inj hl hm e)
  have h3 : (strOf l).data ≠ (strOf m).data := fun e => h2 (congrArg ByteArray.mk e)
  show ((strOf l).data == (strOf m).data) = false
  exact beq_eq_false_iff_ne.mpr h3

set_option maxRecDepth 100000 in
set_option maxHeartbeats 4000000 in
theorem refopen_any (a : Option Addr) (n cap : Nat) (l : List Nat) (w : World) (hv : Byt w (.slice a n cap) l) (hg : Low (.slice a n cap) w.heap.size) (hl : n ≤ 1000000000) (h256 : ∀ y ∈ l, y < 256) (hcap : n ≤ cap)
    (m : Nat) (hm : numOf (l.take 8) = m) (h8 : 8 + m + 4 ≤ n) (hmost : m ≤ 16384) (heq : l.take (8 + m + 4) = sealB ((l.drop 8).take m)) :
    Calls Tryd.prog 34 #[.slice a n cap] w fun e w' => ∃ v', e = .returned (.tuple #[v', .int .i64 ((8 + m + 4 : Nat) : Int), .int .i64 0]) ∧ w'.ownsRow w.heap.size 5 1 v' m (bv ((l.drop 8).take m)) ∧ Below w.heap.size w w' := by
  have hb0 : Below w.heap.size w (w.alloc (.cells #[.slice a n cap, .int .i64 0, .int .i64 0] 38)) := (Below.refl _ _).alloc (Nat.le_refl _) _
  have hrd := Rd.fresh w (.slice a n cap)
  have HC := hide (refbytes_any w.heap.size a n cap l _ (hv.call hb0) hrd hg hl h256 m hm (by omega) hmost)
  have HB0 := hide hb0
  have hln := byt_len hv
  have hd256 : ∀ y ∈ (l.drop 8).take m, y < 256 := fun y hy => h256 y (List.mem_of_mem_drop (List.mem_of_mem_take hy))
  have hdl : ((l.drop 8).take m).length = m := by rw [List.length_take, List.length_drop]; omega
  have ht256 : ∀ y ∈ l.take (8 + m + 4), y < 256 := fun y hy => h256 y (List.mem_of_mem_take hy)
  have HD := hide hd256
  have HDL := hide hdl
  have HT := hide ht256
  have HV := hide (hv.call hb0)
  have HV0 := hide hv
  have HEQ := hide heq
  have g1 : decide ((n : Int) - ((8 + m : Nat) : Int) < 4) = false := by simp; omega
  have g2 : (8 + (m : Int) + 4) ≤ (cap : Int) := by omega
  have g3 : (0 : Int) ≤ 8 + (m : Int) + 4 := by omega
  have g4 : (8 + (m : Int) + 4).toNat = 8 + m + 4 := by omega
  clear hv h256 hrd hb0 hm hd256 hdl ht256 hln heq
  go_enter Tryd.func34, Tryd.ntmps34
  go_wp2_with fail
  refine (unhide HC).mono ?_
  rintro e w1 ⟨v1, rfl, hown, hR, hB⟩
  have HL := hide (refleft_any w.heap.size a n cap (8 + m) w1 hR.1.1 hR.1.2.1 (by omega) hl)
  have hF := hR.1
  have HR := hide hR
  have HOWN := hide hown
  have HB1 := hide ((unhide HB0).trans hB)
  clear hown hR hB
  go_wp2_with fail
  refine (unhide HL).mono ?_
  rintro e w2 ⟨rfl, d, rfl⟩
  have hR2 := (unhide HR).below (Joins.below_draws (w.heap.size + 1) w1 d)
  have hown2 : (w1.drewN d).ownsRow w.heap.size 5 1 v1 ((l.drop 8).take m).length (bv ((l.drop 8).take m)) := own_cast (own_mono ((unhide HOWN)) (by simp)) (unhide HDL).symm rfl
  have HS := hide (refseal_any v1 ((l.drop 8).take m) (w1.drewN d) (Byt.of_own hown2) (unhide HD) (by rw [unhide HDL]; exact hmost))
  have HR2 := hide hR2
  have HOWN2 := hide hown2
  have HB2 := hide ((unhide HB1).trans (Joins.below_draws _ _ d))
  clear hF hR2 hown2
  generalize w1.drewN d = V at *
  go_wp2_with fail
  refine (unhide HS).mono ?_
  rintro e w3 ⟨v3, rfl, hown3, hB3⟩
  have hR3 := (unhide HR2).below (hB3.mono (unhide HR2).2)
  have HB3 := hide ((unhide HB2).trans (hB3.mono (unhide HB2).size))
  have HO3 := hide (own_block (unhide HOWN2) (fun j _ hj => hB3.block j hj))
  have hbv := (unhide HV0).call (unhide HB3)
  have hc1 := fun q => byt_convert ((Byt.of_own hown3).drew q) (by rw [← unhide HEQ]; exact unhide HT)
  have hc2 := fun q => byt_convert ((take_byt0 (k := 8 + m + 4) hbv h8).drew q) (unhide HT)
  rw [unhide HEQ] at hc2
  have hF := hR3.1
  obtain ⟨a3, cap3, rfl⟩ := byt_shape (Byt.of_own hown3)
  generalize (sealB ((l.drop 8).take m)).length = sl at *
  generalize strOf (sealB ((l.drop 8).take m)) = S at *
  clear hown3 hR3 hbv hB3
  go_wp2_with fail
  go_quiet (fail)
  go_wp2_with fail
  go_quiet (fail)
  go_wp2_with fail
  go_ret3
  rw [show ((8 + m + 4 : Nat) : Int) = 8 + (m : Int) + 4 by omega]
  refine ⟨v1, rfl, ?_, ((unhide HB3).trans (Joins.below_draws _ _ _)).trans (Joins.below_draws _ _ _)⟩
  exact own_cast (own_block (unhide HO3) (fun j _ hj => rfl)) (unhide HDL) rfl
set_option maxRecDepth 100000 in
set_option maxHeartbeats 4000000 in
theorem refopen_sum (a : Option Addr) (n cap : Nat) (l : List Nat) (w : World) (hv : Byt w (.slice a n cap) l) (hg : Low (.slice a n cap) w.heap.size) (hl : n ≤ 1000000000) (h256 : ∀ y ∈ l, y < 256) (hcap : n ≤ cap)
    (m : Nat) (hm : numOf (l.take 8) = m) (h8 : 8 + m + 4 ≤ n) (hmost : m ≤ 16384) (heq : l.take (8 + m + 4) ≠ sealB ((l.drop 8).take m)) :
    Calls Tryd.prog 34 #[.slice a n cap] w fun e w' => e = .returned (.tuple #[.slice none 0 0, .int .i64 0, .int .i64 20]) ∧ Below w.heap.size w w' := by
  have hb0 : Below w.heap.size w (w.alloc (.cells #[.slice a n cap, .int .i64 0, .int .i64 0] 38)) := (Below.refl _ _).alloc (Nat.le_refl _) _
  have hrd := Rd.fresh w (.slice a n cap)
  have HC := hide (refbytes_any w.heap.size a n cap l _ (hv.call hb0) hrd hg hl h256 m hm (by omega) hmost)
  have HB0 := hide hb0
  have hln := byt_len hv
  have hd256 : ∀ y ∈ (l.drop 8).take m, y < 256 := fun y hy => h256 y (List.mem_of_mem_drop (List.mem_of_mem_take hy))
  have hdl : ((l.drop 8).take m).length = m := by rw [List.length_take, List.length_drop]; omega
  have ht256 : ∀ y ∈ l.take (8 + m + 4), y < 256 := fun y hy => h256 y (List.mem_of_mem_take hy)
  have HD := hide hd256
  have HDL := hide hdl
  have HT := hide ht256
  have HV := hide (hv.call hb0)
  have HV0 := hide hv
  have HEQ := hide heq
  have g1 : decide ((n : Int) - ((8 + m : Nat) : Int) < 4) = false := by simp; omega
  have g2 : (8 + (m : Int) + 4) ≤ (cap : Int) := by omega
  have g3 : (0 : Int) ≤ 8 + (m : Int) + 4 := by omega
  have g4 : (8 + (m : Int) + 4).toNat = 8 + m + 4 := by omega
  clear hv h256 hrd hb0 hm hd256 hdl ht256 hln heq
  go_enter Tryd.func34, Tryd.ntmps34
  go_wp2_with fail
  refine (unhide HC).mono ?_
  rintro e w1 ⟨v1, rfl, hown, hR, hB⟩
  have HL := hide (refleft_any w.heap.size a n cap (8 + m) w1 hR.1.1 hR.1.2.1 (by omega) hl)
  have hF := hR.1
  have HR := hide hR
  have HOWN := hide hown
  have HB1 := hide ((unhide HB0).trans hB)
  clear hown hR hB
  go_wp2_with fail
  refine (unhide HL).mono ?_
  rintro e w2 ⟨rfl, d, rfl⟩
  have hR2 := (unhide HR).below (Joins.below_draws (w.heap.size + 1) w1 d)
  have hown2 : (w1.drewN d).ownsRow w.heap.size 5 1 v1 ((l.drop 8).take m).length (bv ((l.drop 8).take m)) := own_cast (own_mono ((unhide HOWN)) (by simp)) (unhide HDL).symm rfl
  have HS := hide (refseal_any v1 ((l.drop 8).take m) (w1.drewN d) (Byt.of_own hown2) (unhide HD) (by rw [unhide HDL]; exact hmost))
  have HR2 := hide hR2
  have HOWN2 := hide hown2
  have HB2 := hide ((unhide HB1).trans (Joins.below_draws _ _ d))
  clear hF hR2 hown2
  generalize w1.drewN d = V at *
  go_wp2_with fail
  refine (unhide HS).mono ?_
  rintro e w3 ⟨v3, rfl, hown3, hB3⟩
  have hR3 := (unhide HR2).below (hB3.mono (unhide HR2).2)
  have HB3 := hide ((unhide HB2).trans (hB3.mono (unhide HB2).size))
  have HO3 := hide (own_block (unhide HOWN2) (fun j _ hj => hB3.block j hj))
  have hbv := (unhide HV0).call (unhide HB3)
  have hc1 := fun q => byt_convert ((Byt.of_own hown3).drew q) (seal_256 (unhide HD))
  have hc2 := fun q => byt_convert ((take_byt0 (k := 8 + m + 4) hbv h8).drew q) (unhide HT)
  have hne := strOf_ne (seal_256 (unhide HD)) (unhide HT) (Ne.symm (unhide HEQ))
  have hF := hR3.1
  obtain ⟨a3, cap3, rfl⟩ := byt_shape (Byt.of_own hown3)
  generalize (sealB ((l.drop 8).take m)).length = sl at *
  generalize strOf (sealB ((l.drop 8).take m)) = S at *
  generalize strOf (l.take (8 + m + 4)) = S2 at *
  clear hown3 hR3 hbv hB3
  go_wp2_with fail
  go_quiet (fail)
  go_wp2_with fail
  go_ret3
  exact ⟨rfl, (unhide HB3).trans (Joins.below_draws _ _ _)⟩

end Go.Proofs.YtbahnkomdndmkacDoor
