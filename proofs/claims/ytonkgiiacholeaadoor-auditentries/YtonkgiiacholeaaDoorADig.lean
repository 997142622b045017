/- The audit's digests of nothing, of an entry, and of two digests. -/
import Derived.Test.YtonkgiiacholeaaDoorAwake
import Derived.Test.YtonkgiiacholeaaDoorAMath2
import Derived.Deep.RegionHeld3
import Derived.Deep.MidRow
namespace Go.Proofs.YtonkgiiacholeaaDoor
set_option linter.unusedVariables false
set_option linter.unusedSimpArgs false
open Go.ChangeShapes Go.WideShapes Go.ChangeAt Go.RowKit Go.Joins

theorem results_mid {P : Program} {fn : Func} {p : Tmp} {ty : TypeId} (h : fn.results = #[.cell p ty]) (tmps : Array Value) (w : World) (g : Nat) (cs : List Value) (d : TypeDesc)
    (hp : tmps.getD p undef = .pointer (some ⟨g, 0, none⟩)) (hc : w.rangeAt g 0 cs)
    (hu : P.underlying ty = some d) (hd : d.isRow = true) (hi : (P.info? ty).map (·.size) = some cs.length) :
    (results fn tmps).run P w = .ok (.agg cs.toArray) w := by
  have hp' : tmps[p]?.getD undef = .pointer (some ⟨g, 0, none⟩) := by simpa using hp
  simp [results, h, hp', asAddr, run_loadVar_mid w g 0 ty cs d hc hu hd hi]
theorem below_setCells {B g : Nat} {w : World} (hg : B ≤ g) : ∀ (vs : List Value) (o : Nat) (w' : World), Below B w w' → Below B w (w'.setCells g o vs)
  | [], _, _, h => h
  | v :: vs, o, w', h => below_setCells hg vs (o + 1) _ (h.setCell hg v)
theorem RowAt.sets {g : Nat} {t : TypeId} : ∀ (vs cs pre : List Value) (w : World), vs.length = cs.length → RowAt w g t (pre ++ cs) → RowAt (w.setCells g pre.length vs) g t (pre ++ vs)
  | [], [], pre, w, _, h => h
  | v :: vs, c :: cs, pre, w, hl, h => by
    have h1 := h.set pre.length v
    rw [List.set_append_right _ _ (Nat.le_refl _), Nat.sub_self, List.set_cons_zero] at h1
    have h2 := RowAt.sets vs cs (pre ++ [v]) _ (by simpa using hl) (by simpa using h1)
    rw [List.length_append, List.length_singleton] at h2
    simpa [World.setCells] using h2
theorem RowAt.over {w : World} {g : Nat} {t : TypeId} {cs vs : List Value} (h : RowAt w g t cs) (hl : vs.length = cs.length) : RowAt (w.setCells g 0 vs) g t vs := RowAt.sets vs cs [] w hl h
theorem RowAt.range {w : World} {g : Nat} {t : TypeId} {cs : List Value} (h : RowAt w g t cs) : w.rangeAt g 0 cs := fun j v hj => by
  have := h.cell j
  rw [Nat.zero_add, this]
  exact hj
theorem RowAt.there {w : World} {g : Nat} {t : TypeId} {cs : List Value} (h : RowAt w g t cs) : w.there g 0 cs.length := fun j hj => by
  rw [Nat.zero_add]
  refine ⟨?_, h.frozen j⟩
  have := h.cell j
  rw [this, List.getElem?_eq_getElem hj]
  rfl
theorem noneL_len : noneL.length = 32 := sumL_len _ _
theorem leafL_len (d : List Nat) : (leafL d).length = 32 := sumL_len _ _
theorem knotL_len (a b : List Nat) : (knotL a b).length = 32 := sumL_len _ _
theorem LL.nil (w : World) : LL w (.slice none 0 0) [] := ⟨none, 0, rfl, ⟨Nat.le_refl _, Nat.zero_le _⟩, fun i u l h => by cases h⟩
theorem byt_arr {w : World} {g : Nat} {t : TypeId} {l : List Nat} {n : Nat} (h : RowAt w g t (bv l)) (hn : l.length = n) (hm : n ≤ maxLen) : Byt w (.slice (some ⟨g, 0, none⟩) n n) l := by
  subst hn
  refine .inr ⟨_, _, rfl, Nat.le_refl _, hm, fun j y hy => ?_⟩
  have hj : j < (bv l).length := by rw [bv_len]; exact (List.getElem?_eq_some_iff.1 hy).1
  have := h.cell j
  rw [add_plain]
  simpa [bv, hy] using this

set_option maxRecDepth 100000 in
set_option maxHeartbeats 4000000 in
theorem nothing_any (w : World) (hT : Tabs w) : Calls Tryd.prog 57 #[] w fun e w' => e = .returned (.agg (bv noneL).toArray) ∧ Below w.heap.size w w' := by
  have hz := zero27
  generalize hZ : (bv (List.replicate 32 0)).toArray = Z at hz
  have HZE := hide hZ
  have HZS : Hid (Z.size = 32) := hide (by rw [← hZ, List.size_toArray, bv_len, List.length_replicate])
  have b1 : Below w.heap.size w (w.alloc (.cells Z 43)) := (Below.refl _ _).alloc (Nat.le_refl _) _
  have HR1 : Hid (RowAt (w.alloc (.cells Z 43)) w.heap.size 43 (bv (List.replicate 32 0))) := hide (hZ ▸ RowAt.new w 43 (bv (List.replicate 32 0)))
  have HB1 := hide b1
  have HOF := hide (of_any [] (.slice none 0 0) _ (hT.below b1) (LL.nil _) (fun x hx => by cases hx) (by simp [flat]))
  rw [show sumL (stW 0) (flat []) = noneL from rfl] at HOF
  clear hT b1 hZ
  go_enter Tryd.func57, Tryd.ntmps57
  go_wp2_with fail
  generalize w.alloc (.cells Z 43) = w1 at *
  refine Calls.mono (unhide HOF) ?_
  rintro e w5 ⟨rfl, b5⟩
  obtain ⟨E, hE⟩ : ∃ E, (bv (noneL)).toArray = E := ⟨_, rfl⟩
  rw [hE]
  have HE2 := hide (((unhide HR1).below b5 (unhide HR1).lt).arr (unhide HZE))
  have HES : Hid (E.size = 32) := hide (by rw [← hE, List.size_toArray, bv_len, noneL_len])
  have HEO : Hid (E.all (·.oneCell') = true) := hide (hE ▸ one_bv _)
  have HEE := hide hE
  have HB5 := hide ((unhide HB1).trans (b5.mono (unhide HB1).size))
  clear b5 hE HOF
  go_wp2_with (refine wpList_store_row rfl 43 _ _ rfl w.heap.size E rfl rfl 43 Z (unhide HE2) (by rw [z27, unhide HES]) (by rw [unhide HES, unhide HZS]) (unhide HEO) ?_)
  refine bodyPost_ret (results_cell_row Tryd.results57 _ _ w.heap.size 43 E (0, 0) _ rfl (setRow_heap _ _ _ _ _ _ (unhide HE2)) Tryd.underlying43 rfl (by rw [z27, unhide HES])) rfl ⟨?_, ?_⟩
  · rw [← unhide HEE]
  · exact Below.trans (unhide HB5) ⟨rfl, rfl, rfl, by simp [World.setRow], fun k hk => setRow_other _ _ _ _ (by omega)⟩
set_option maxRecDepth 100000 in
set_option maxHeartbeats 4000000 in
theorem leaf_any (v : Value) (d : List Nat) (w : World) (hT : Tabs w) (hd : Byt w v d) (h8 : U8 d) (hl : d.length ≤ 1000000) : Calls Tryd.prog 56 #[v] w fun e w' => e = .returned (.agg (bv (leafL d)).toArray) ∧ Below w.heap.size w w' := by
  have hz := zero27
  generalize hZ : (bv (List.replicate 32 0)).toArray = Z at hz
  have HZE := hide hZ
  have HZS : Hid (Z.size = 32) := hide (by rw [← hZ, List.size_toArray, bv_len, List.length_replicate])
  have b1 : Below w.heap.size w (w.alloc (.cells Z 43)) := (Below.refl _ _).alloc (Nat.le_refl _) _
  have HR1 : Hid (RowAt (w.alloc (.cells Z 43)) w.heap.size 43 (bv (List.replicate 32 0))) := hide (hZ ▸ RowAt.new w 43 (bv (List.replicate 32 0)))
  have HB1 := hide b1
  obtain ⟨va, vc, rfl⟩ := byt_shape hd
  obtain ⟨n, hn⟩ : ∃ n, d.length = n := ⟨_, rfl⟩
  rw [hn] at hd ⊢
  have s1 := size_alloc w (.cells Z 43)
  have y0 : Byt ((w.alloc (.cells Z 43)).alloc (.cells #[.int .u8 0] 5)) (.slice (some ⟨(w.alloc (.cells Z 43)).heap.size, 0, none⟩) 1 1) [0] := lit_byt (w.alloc (.cells Z 43)) [0] (0, 0) 1 rfl (by omega)
  have b2 : Below w.heap.size w ((w.alloc (.cells Z 43)).alloc (.cells #[.int .u8 0] 5)) := b1.alloc (by omega) _
  have s2 := size_alloc (w.alloc (.cells Z 43)) (.cells #[.int .u8 0] 5)
  have hL := LL.two y0 (hd.call b2)
  have b3 : Below w.heap.size w (((w.alloc (.cells Z 43)).alloc (.cells #[.int .u8 0] 5)).alloc (.cells #[.slice (some ⟨w.heap.size + 1, 0, none⟩) 1 1, .slice va n vc] 22)) := b2.alloc (by omega) _
  rw [s2, s1] at hL
  have HOF : Hid (Calls Tryd.prog 78 #[.slice (some ⟨w.heap.size + 1 + 1, 0, none⟩) 2 2] (((w.alloc (.cells Z 43)).alloc (.cells #[.int .u8 0] 5)).alloc (.cells #[.slice (some ⟨w.heap.size + 1, 0, none⟩) 1 1, .slice va n vc] 22)) fun e w' => e = .returned (.agg (bv (leafL d)).toArray) ∧ Below (((w.alloc (.cells Z 43)).alloc (.cells #[.int .u8 0] 5)).alloc (.cells #[.slice (some ⟨w.heap.size + 1, 0, none⟩) 1 1, .slice va n vc] 22)).heap.size _ w') :=
    hide (by
      have := of_any _ _ _ (hT.below b3) hL (fun x hx => by
        simp at hx
        rcases hx with rfl | rfl
        · intro y hy; simp at hy; omega
        · exact h8) (by simp [flat]; omega)
      simp only [flat, List.map_cons, List.map_nil, List.flatten_cons, List.flatten_nil, List.append_nil, List.cons_append, List.nil_append] at this
      exact this)
  have HR3 := hide (((unhide HR1).below (B := (w.alloc (.cells Z 43)).heap.size) ((((Below.refl _ _).alloc (Nat.le_refl _) (.cells #[.int .u8 0] 5)).alloc (by omega) (.cells #[.slice (some ⟨w.heap.size + 1, 0, none⟩) 1 1, .slice va n vc] 22))) (unhide HR1).lt))
  have HB3 := hide b3
  clear hT b1 b2 b3 hZ hd y0 hL s1 s2 h8 hl hn HR1 HB1
  go_enter Tryd.func56, Tryd.ntmps56
  go_wp2_with fail
  generalize (((w.alloc (.cells Z 43)).alloc (.cells #[.int .u8 0] 5)).alloc (.cells #[.slice (some ⟨w.heap.size + 1, 0, none⟩) 1 1, .slice va n vc] 22)) = w1 at *
  refine Calls.mono (unhide HOF) ?_
  rintro e w5 ⟨rfl, b5⟩
  obtain ⟨E, hE⟩ : ∃ E, (bv (leafL d)).toArray = E := ⟨_, rfl⟩
  rw [hE]
  have HE2 := hide (((unhide HR3).below b5 (unhide HR3).lt).arr (unhide HZE))
  have HES : Hid (E.size = 32) := hide (by rw [← hE, List.size_toArray, bv_len, leafL_len])
  have HEO : Hid (E.all (·.oneCell') = true) := hide (hE ▸ one_bv _)
  have HEE := hide hE
  have HB5 := hide ((unhide HB3).trans (b5.mono (unhide HB3).size))
  clear b5 hE HOF
  go_wp2_with (refine wpList_store_row rfl 43 _ _ rfl w.heap.size E rfl rfl 43 Z (unhide HE2) (by rw [z27, unhide HES]) (by rw [unhide HES, unhide HZS]) (unhide HEO) ?_)
  refine bodyPost_ret (results_cell_row Tryd.results56 _ _ w.heap.size 43 E (0, 0) _ rfl (setRow_heap _ _ _ _ _ _ (unhide HE2)) Tryd.underlying43 rfl (by rw [z27, unhide HES])) rfl ⟨?_, ?_⟩
  · rw [← unhide HEE]
  · exact Below.trans (unhide HB5) ⟨rfl, rfl, rfl, by simp [World.setRow], fun k hk => setRow_other _ _ _ _ (by omega)⟩
set_option maxRecDepth 100000 in
set_option maxHeartbeats 4000000 in
theorem knot_any (a b : List Nat) (w : World) (hT : Tabs w) (ha : a.length = 32) (hb : b.length = 32) (ha8 : U8 a) (hb8 : U8 b) : Calls Tryd.prog 81 #[.agg (bv a).toArray, .agg (bv b).toArray] w fun e w' => e = .returned (.agg (bv (knotL a b)).toArray) ∧ Below w.heap.size w w' := by
  have hz := zero27
  generalize hZ : (bv (List.replicate 32 0)).toArray = Z at hz
  have HZE := hide hZ
  have HZS : Hid (Z.size = 32) := hide (by rw [← hZ, List.size_toArray, bv_len, List.length_replicate])
  have b1 : Below w.heap.size w (w.alloc (.cells Z 43)) := (Below.refl _ _).alloc (Nat.le_refl _) _
  have HR1 : Hid (RowAt (w.alloc (.cells Z 43)) w.heap.size 43 (bv (List.replicate 32 0))) := hide (hZ ▸ RowAt.new w 43 (bv (List.replicate 32 0)))
  have HB1 := hide b1
  obtain ⟨A, hA⟩ : ∃ A, (bv a).toArray = A := ⟨_, rfl⟩
  obtain ⟨B, hB⟩ : ∃ B, (bv b).toArray = B := ⟨_, rfl⟩
  obtain ⟨E, hE⟩ : ∃ E, (bv (knotL a b)).toArray = E := ⟨_, rfl⟩
  have HES : Hid (E.size = 32) := hide (by rw [← hE, List.size_toArray, bv_len, knotL_len])
  have q1 : ∀ v, v ∈ E.toList → v.oneCell' = true := by
    rw [← hE]
    intro v hv
    simp [bv] at hv
    obtain ⟨x, _, rfl⟩ := hv
    rfl
  have HEL : Hid (E.toList.length = 32) := hide (by rw [← hE]; simp only [List.toList_toArray]; rw [bv_len, knotL_len])
  have q3 : Option.map (fun x => x.size) (Tryd.prog.info? 43) = some E.toList.length := by rw [unhide HEL]; exact z27
  rw [hA, hB, hE]
  have HASZ : Hid (A.size = 32) := hide (by rw [← hA, List.size_toArray, bv_len, ha])
  have HBSZ : Hid (B.size = 32) := hide (by rw [← hB, List.size_toArray, bv_len, hb])
  clear b1 HB1 HR1
  have s1 := size_alloc w (.cells A 43)
  have s2 := size_alloc (w.alloc (.cells A 43)) (.cells B 43)
  have s3 := size_alloc ((w.alloc (.cells A 43)).alloc (.cells B 43)) (.cells Z 43)
  have s4 := size_alloc (((w.alloc (.cells A 43)).alloc (.cells B 43)).alloc (.cells Z 43)) (.cells #[.int .u8 1] 5)
  have RA : RowAt (w.alloc (.cells A 43)) w.heap.size 43 (bv a) := hA ▸ RowAt.new w 43 (bv a)
  have RB : RowAt ((w.alloc (.cells A 43)).alloc (.cells B 43)) (w.heap.size + 1) 43 (bv b) := by
    have := RowAt.new (w.alloc (.cells A 43)) 43 (bv b)
    rw [hB, s1] at this
    exact this
  have RZ : RowAt (((w.alloc (.cells A 43)).alloc (.cells B 43)).alloc (.cells Z 43)) (w.heap.size + 1 + 1) 43 (bv (List.replicate 32 0)) := by
    have := RowAt.new ((w.alloc (.cells A 43)).alloc (.cells B 43)) 43 (bv (List.replicate 32 0))
    rw [hZ, s2, s1] at this
    exact this
  obtain ⟨W3, hW3⟩ : ∃ W, ((w.alloc (.cells A 43)).alloc (.cells B 43)).alloc (.cells Z 43) = W := ⟨_, rfl⟩
  have hs3 : W3.heap.size = w.heap.size + 1 + 1 + 1 := by rw [← hW3, s3, s2, s1]
  have B3 : Below w.heap.size w W3 := hW3 ▸ (((Below.refl _ _).alloc (Nat.le_refl _) (.cells A 43)).alloc (by omega) (.cells B 43)).alloc (by omega) (.cells Z 43)
  have RA3 : RowAt W3 w.heap.size 43 (bv a) := hW3 ▸ (RA.below (B := (w.alloc (.cells A 43)).heap.size) (((Below.refl _ _).alloc (Nat.le_refl _) (.cells B 43)).alloc (by omega) (.cells Z 43)) RA.lt)
  have RB3 : RowAt W3 (w.heap.size + 1) 43 (bv b) := hW3 ▸ (RB.below (B := ((w.alloc (.cells A 43)).alloc (.cells B 43)).heap.size) ((Below.refl _ _).alloc (Nat.le_refl _) (.cells Z 43)) RB.lt)
  rw [hW3] at RZ
  have y1 : Byt (W3.alloc (.cells #[.int .u8 1] 5)) (.slice (some ⟨W3.heap.size, 0, none⟩) 1 1) [1] := lit_byt W3 [1] (0, 0) 1 rfl (by omega)
  have s5 := size_alloc W3 (.cells #[.int .u8 1] 5)
  have b4 : Below W3.heap.size W3 (W3.alloc (.cells #[.int .u8 1] 5)) := (Below.refl _ _).alloc (Nat.le_refl _) _
  have hL := LL.three y1 ((byt_arr RA3 ha (by unfold maxLen; omega)).call b4) ((byt_arr RB3 hb (by unfold maxLen; omega)).call b4)
  rw [s5, hs3] at hL
  obtain ⟨W5, hW5⟩ : ∃ W, (W3.alloc (.cells #[.int .u8 1] 5)).alloc (.cells #[.slice (some ⟨w.heap.size + 1 + 1 + 1, 0, none⟩) 1 1, .slice (some ⟨w.heap.size, 0, none⟩) 32 32, .slice (some ⟨w.heap.size + 1, 0, none⟩) 32 32] 22) = W := ⟨_, rfl⟩
  have b5 : Below W3.heap.size W3 W5 := hW5 ▸ b4.alloc (by omega) _
  rw [hW5] at hL
  have B5 : Below w.heap.size w W5.drew := (B3.trans (b5.mono B3.size)).drew
  have b6 : Below W3.heap.size W3 W5.drew := b5.drew
  have HOF : Hid (Calls Tryd.prog 78 #[.slice (some ⟨w.heap.size + 1 + 1 + 1 + 1, 0, none⟩) 3 3] W5.drew fun e w' => e = .returned (.agg E) ∧ Below W5.drew.heap.size W5.drew w') :=
    hide (by
      have := of_any _ _ _ (hT.below B5) (hL.call ((Below.refl _ _).drew)) (fun x hx => by
        simp at hx
        rcases hx with rfl | rfl | rfl
        · intro y hy; simp at hy; omega
        · exact ha8
        · exact hb8) (by simp [flat]; omega)
      simp only [flat, List.map_cons, List.map_nil, List.flatten_cons, List.flatten_nil, List.append_nil, List.cons_append, List.nil_append] at this
      rw [← hE]
      exact this)
  have HR3 := hide (RZ.below b6 RZ.lt)
  have HB3 := hide B5
  have HW3 := hide hW3
  have HW5 := hide hW5
  clear hT hA hB ha hb ha8 hb8 s1 s2 s3 s4 s5 RA RB RZ RA3 RB3 hs3 B3 y1 b4 hL b5 B5 b6 hW3 hW5 hZ hE
  go_enter Tryd.func81, Tryd.ntmps81
  go_wp2_with fail
  go_region_held3 (fun w' => True) (trivial)
    (first
      | (go_at_call 78; rw [unhide HW3, unhide HW5]; refine Calls.mono (unhide HOF) ?_; rintro e w5 ⟨rfl, b5⟩; have HR6 := hide ((unhide HR3).below b5 (unhide HR3).lt); have HB5 := hide ((unhide HB3).trans (b5.mono (unhide HB3).size)); have q2 : w5.there (w.heap.size + 1 + 1) 0 E.toList.length := by (have := ((unhide HR3).below b5 (unhide HR3).lt).there; rw [bv_len, List.length_replicate] at this; rw [unhide HEL]; exact this)))
  go_wp2_with fail
  have R6 : RowAt (w5.setCells (w.heap.size + 1 + 1) 0 E.toList) (w.heap.size + 1 + 1) 43 E.toList := by
    refine RowAt.over (unhide HR6) ?_
    rw [unhide HEL, bv_len, List.length_replicate]
  have B6 := below_setCells (g := w.heap.size + 1 + 1) (by omega) E.toList 0 w5 (unhide HB5)
  refine bodyPost_ret (results_cell_row Tryd.results81 _ _ (w.heap.size + 1 + 1) 43 E (0, 0) _ rfl (by have := R6; rw [RowAt, Array.toArray_toList] at this; exact this) Tryd.underlying43 rfl (by rw [z27, unhide HES])) rfl ⟨rfl, B6⟩
end Go.Proofs.YtonkgiiacholeaaDoor
