/- The audit's example holds. -/
import Derived.Test.YtonkgiiacholeaaDoorAProof
import Derived.Test.YtonkgiiacholeaaDoorARefD
import Derived.Deep.RegionHeld3
namespace Go.Proofs.YtonkgiiacholeaaDoor
set_option linter.unusedVariables false
set_option linter.unusedSimpArgs false
open Go.ChangeShapes Go.WideShapes Go.ChangeAt Go.RowKit Go.Joins

theorem byt_lit (w : World) (x : Nat) (fr : Nat × Nat) : Byt (w.alloc (.cells #[.int .u8 (x : Int)] 5 fr)) (.slice (some ⟨w.heap.size, 0, none⟩) 1 1) [x] := by
  refine .inr ⟨_, 1, rfl, by simp, by unfold maxLen; omega, fun i y hy => ?_⟩
  match i, hy with
  | 0, hy =>
    obtain rfl : x = y := by simpa using hy
    exact World.cell?_alloc_mark w _ 5 fr 0
theorem conv_lit (w : World) (x : Nat) (g : Nat) (hg : g = w.heap.size) : (convert 22 22 (.slice (some ⟨g, 0, none⟩) 1 1)).run Tryd.prog (w.alloc (.cells #[.int .u8 (x : Int)] 5)) = .ok (.slice (some ⟨g, 0, none⟩) 1 1) (w.alloc (.cells #[.int .u8 (x : Int)] 5 (1, 2))) := by
  subst hg
  exact Lib.run_convert_bytes_const w 22 5 #[.int .u8 (x : Int)] 1 1 Tryd.underlying22 Tryd.underlying5
theorem conv_late {w : World} {g : Nat} {x : Value} (h : w.heap[g]? = some (.cells #[x] 5)) : (convert 22 22 (.slice (some ⟨g, 0, none⟩) 1 1)).run Tryd.prog w = .ok (.slice (some ⟨g, 0, none⟩) 1 1) (w.freeze ⟨g, 1, none⟩ 1) := by
  have hsh : w.shape? g = some (5, 1) := by simp [World.shape?, h]
  simp [convert, run_underlying Tryd.underlying22, run_underlying Tryd.underlying5, markStringish, hsh]
theorem heap_freeze (w : World) (g k i : Nat) (hi : g ≠ i) : (w.freeze ⟨g, k, none⟩ 1).heap[i]? = w.heap[i]? := by
  unfold World.freeze
  rw [if_neg (by decide)]
  show (w.heap.modify g _)[i]? = _
  rw [Array.getElem?_modify, if_neg hi]
theorem bfreeze {B g k : Nat} {w0 w : World} (h : Below B w0 w) (hg : B ≤ g) : Below B w0 (w.freeze ⟨g, k, none⟩ 1) := by
  have e : ∀ i, i < B → (w.freeze ⟨g, k, none⟩ 1).heap[i]? = w.heap[i]? := fun i hi => heap_freeze w g k i (by omega)
  unfold World.freeze at *
  rw [if_neg (by decide)] at *
  exact h.trans ⟨rfl, rfl, rfl, by simp, e⟩
theorem byt_freeze {w : World} {g : Nat} {x : Nat} (h : w.heap[g]? = some (.cells #[.int .u8 (x : Int)] 5)) : Byt (w.freeze ⟨g, 1, none⟩ 1) (.slice (some ⟨g, 0, none⟩) 1 1) [x] := by
  refine .inr ⟨_, 1, rfl, by simp, by unfold maxLen; omega, fun i y hy => ?_⟩
  match i, hy with
  | 0, hy =>
    obtain rfl : x = y := by simpa using hy
    have : (w.freeze ⟨g, 1, none⟩ 1).heap[g]? = some (.cells #[.int .u8 (x : Int)] 5 (1, 2)) := by
      unfold World.freeze
      rw [if_neg (by decide)]
      show (w.heap.modify g _)[g]? = _
      rw [Array.getElem?_modify, if_pos rfl, h]
      rfl
    show World.cell? _ ⟨g, 0 + 0, none⟩ = _
    simp [World.cell?, this]
theorem bal {w0 w : World} (h : Below w0.heap.size w0 w) (o : Obj) : Below w0.heap.size w0 (w.alloc o) := h.alloc h.size o
theorem bcall {w0 w w' : World} (h : Below w0.heap.size w0 w) (b : Below w.heap.size w w') : Below w0.heap.size w0 w' := h.trans (b.mono h.size)
def KB (w0 w' : World) (gx : Nat) (X : List Value) : Prop := w'.rangeAt gx 0 X ∧ Below w0.heap.size w0 w'
theorem KB.call {w0 w' : World} {gx : Nat} {X : List Value} (h : KB w0 w0 gx X) (b : Below w0.heap.size w0 w') : KB w0 w' gx X :=
  ⟨fun j v hj => by
    have := h.1 j v hj
    have hlt := World.block_lt_of_cell? _ _ this
    exact (World.cell?_of_block (b.block _ hlt)).trans this, b⟩
def exE : List (List Nat) := [[97], [98], [99]]
theorem ex_proves_c (R : List Nat) (hR : digL exE = R) : provesE [99] 2 3 [digL [[97], [98]]] R = 0 := by
  unfold provesE
  rw [ex_lead, ← hR, exE, ex_root, if_pos ⟨rfl, rfl⟩]
theorem ex_proves_d (R : List Nat) (hR : digL exE = R) : provesE [100] 2 3 [digL [[97], [98]]] R = 140 := by
  unfold provesE
  rw [ex_lead, ← hR, exE, ex_root, if_neg]
  rw [ex_two]
  exact fun h => of_decide_eq_false ex_other h.2
set_option maxRecDepth 100000 in
set_option maxHeartbeats 16000000 in
theorem aawake_any (w : World) (hT : Tabs w) : Calls Tryd.prog 21 #[] w fun e w' => e = .returned (.bool true) ∧ Below w.heap.size w w' := by
  have hz := zero27
  generalize hZ : (bv (List.replicate 32 0)).toArray = Z at hz
  have HZS : Hid (Z.size = 32) := hide (by rw [← hZ, List.size_toArray, bv_len, List.length_replicate])
  have B3 : Below w.heap.size w (((w.alloc (.cells #[.int .u8 97] 5 (1, 2))).alloc (.cells #[.int .u8 98] 5 (1, 2))).alloc (.cells #[.int .u8 99] 5 (1, 2))) := bal (bal (bal (Below.refl _ _) _) _) _
  have c1 := byt_lit w 97 (1, 2)
  have c2 := byt_lit (w.alloc (.cells #[.int .u8 97] 5 (1, 2))) 98 (1, 2)
  have c3 := byt_lit ((w.alloc (.cells #[.int .u8 97] 5 (1, 2))).alloc (.cells #[.int .u8 98] 5 (1, 2))) 99 (1, 2)
  have HMD := hide (made_log _ _ _ (hT.below (bal B3 _)) (LL.three ((c1.call (bal (Below.refl _ _) _)).call (bal (Below.refl _ _) _)) (c2.call (bal (Below.refl _ _) _)) c3) (fun x hx => by
      simp at hx
      rcases hx with rfl | rfl | rfl <;> (intro y hy; simp at hy; omega)) (fun x hx => by
      simp at hx
      rcases hx with rfl | rfl | rfl <;> simp) (by simp))
  simp only [size_alloc, List.map_cons, List.map_nil] at HMD
  have HB4 := hide (bal B3 (.cells #[.slice (some ⟨w.heap.size, 0, none⟩) 1 1, .slice (some ⟨w.heap.size + 1, 0, none⟩) 1 1, .slice (some ⟨w.heap.size + 1 + 1, 0, none⟩) 1 1] 22))
  have v1 := conv_lit w 97 w.heap.size rfl
  have v2 := conv_lit (w.alloc (.cells #[.int .u8 97] 5 (1, 2))) 98 (w.heap.size + 1) (by rw [size_alloc])
  have v3 := conv_lit ((w.alloc (.cells #[.int .u8 97] 5 (1, 2))).alloc (.cells #[.int .u8 98] 5 (1, 2))) 99 (w.heap.size + 1 + 1) (by rw [size_alloc, size_alloc])
  simp only [Int.cast_ofNat_Int] at v1 v2 v3
  have HT := hide hT
  clear hT B3 c1 c2 c3 hZ
  go_enter Tryd.func21, Tryd.ntmps21
  go_wp2_with fail
  refine Calls.mono (unhide HMD) ?_
  rintro e w2 ⟨rfl, τ, L2, _, b2⟩
  clear HMD
  obtain ⟨g, hg⟩ : ∃ g, w.heap.size + 1 + 1 + 1 + 1 = g := ⟨_, rfl⟩
  rw [hg] at L2 ⊢
  have B2 : Below w.heap.size w w2 := (unhide HB4).trans (b2.mono (by omega))
  have T2 := (unhide HT).below B2
  have HL2 : Hid (LogAt w2 τ g exE) := hide L2
  have HT2 := hide T2
  have HB2 := hide B2
  have HRL := hide (rleaf_any _ _ _ (byt_lit w2 99 (1, 2)) (by intro y hy; simp at hy; omega) (by simp))
  have v4 := conv_lit w2 99 w2.heap.size rfl
  simp only [Int.cast_ofNat_Int] at v4
  clear v1 v2 v3
  have lc1 : (leafL [99]).length = 32 := sumL_len _ _
  have lc8 : U8 (leafL [99]) := sumL_8 _ _
  obtain ⟨LC, hLC⟩ : ∃ L, leafL [99] = L := ⟨_, rfl⟩
  obtain ⟨LA, hLA⟩ : ∃ L, (bv LC).toArray = L := ⟨_, rfl⟩
  rw [hLC] at lc1 lc8
  rw [hLC, hLA] at HRL
  have HLC := hide hLC
  have HLA := hide hLA
  have HLS : Hid (LA.size = 32) := hide (by rw [← hLA, List.size_toArray, bv_len, lc1])
  have HLO : Hid (LA.all (·.oneCell') = true) := hide (hLA ▸ one_bv _)
  have HLL := hide (And.intro lc1 lc8)
  clear L2 T2 b2 B2 HT HB4 hLC hLA lc1 lc8
  go_wp2_with fail
  refine Calls.mono (unhide HRL) ?_
  rintro e w3 ⟨rfl, b3⟩
  have B3 : Below w2.heap.size w2 (w3.alloc (.cells LA 43)) := bal (bcall (bal (Below.refl _ _) _) b3) _
  have HRC : Hid (RowAt (w3.alloc (.cells LA 43)) w3.heap.size 43 (bv LC)) := hide (unhide HLA ▸ RowAt.new w3 43 (bv LC))
  have HPR := hide (prove_log g exE τ 2 3 _ ((unhide HT2).below B3) ((unhide HL2).call B3) (by decide) (by decide) (by decide))
  have HB3 := hide B3
  have d1 := digL_len [[97], [98]]
  have d8 := digL_8 [[97], [98]]
  have x1 := ex_proves_c _ rfl
  have x2 := ex_proves_d _ rfl
  have x3 : digL exE = knotL (digL [[97], [98]]) LC := by rw [← unhide HLC]; exact ex_root
  rw [show proveL (exE.take 3) 2 = [digL [[97], [98]]] from ex_prove] at HPR
  obtain ⟨D2, hD2⟩ : ∃ L, digL [[97], [98]] = L := ⟨_, rfl⟩
  have HD2 := hide hD2
  rw [hD2] at d1 d8 x1 x2 x3 HPR
  have HDD := hide (And.intro d1 d8)
  have HX1 := hide x1
  have HX2 := hide x2
  have HX3 := hide x3
  clear b3 B3 HRL hD2 d1 d8 x1 x2 x3
  go_wp2_with (refine wpList_store_new rfl 43 _ _ rfl LA rfl rfl (by rw [z27, unhide HLS]) (by rw [unhide HLS, unhide HZS]) (unhide HLO) ?_)
  generalize w3.alloc (.cells LA 43) = w4 at *
  obtain ⟨gc, hgc⟩ : ∃ g, w3.heap.size = g := ⟨_, rfl⟩
  rw [hgc] at HRC ⊢
  refine Calls.mono (unhide HPR) ?_
  rintro e w5 ⟨p, rfl, b5, S5⟩
  have B5 := bcall (unhide HB3) b5
  have HRC5 := hide ((unhide HRC).below b5 (unhide HRC).lt)
  have HS5 := hide S5
  have HGR := hide (grown_log g exE τ 2 3 _ ((unhide HT2).below B5) ((unhide HL2).call B5) (by decide) (by decide) (by decide) (by decide))
  have HB5 := hide B5
  rw [show grownL (exE.take 3) 2 true = [LC] by rw [← unhide HLC]; exact ex_grown] at HGR
  clear b5 B5 S5 HPR HRC HB3
  obtain ⟨pa, pc, hp, _⟩ := own_shape (unhide HS5).1
  subst hp
  go_wp2_with fail
  refine Calls.mono (unhide HGR) ?_
  rintro e w6 ⟨q, rfl, b6, S6⟩
  have B6 := bcall (unhide HB5) b6
  have HRC6 := hide ((unhide HRC5).below b6 (unhide HRC5).lt)
  have P6 : PS w6 _ [D2] := (PS.of_sms (unhide HS5) (by simp)).call b6
  have Q6 : PS w6 q [LC] := PS.of_sms S6 (by simp)
  obtain ⟨qa, qc, hq, _⟩ := own_shape S6.1
  subst hq
  rw [List.length_singleton] at P6 Q6
  have T6 := (unhide HT2).below B6
  have L6 := (unhide HL2).call B6
  have r1 : (digL exE).length = 32 := digL_len _
  obtain ⟨R3, hR3⟩ : ∃ L, digL exE = L := ⟨_, rfl⟩
  have hk3 := (unhide HX3).symm
  have hpc := unhide HX1
  have hpd := unhide HX2
  rw [hR3] at r1 hk3 hpc hpd
  obtain ⟨RA, hRA⟩ : ∃ A, (bv R3).toArray = A := ⟨_, rfl⟩
  obtain ⟨DA, hDA⟩ : ∃ A, (bv D2).toArray = A := ⟨_, rfl⟩
  have KR3 := hide (p := ∀ W', Below w6.heap.size w6 W' → Calls Tryd.prog 30 #[.pointer (some ⟨g, 0, none⟩), .int .i64 3] W' fun e w' => e = .returned (.agg RA) ∧ Below W'.heap.size W' w') (fun W' hb => by
    have := root_ok g exE τ 3 W' (T6.below hb) (L6.call hb) (by decide) (by decide)
    rw [show exE.take 3 = exE from rfl, hR3, hRA] at this
    exact this)
  have KR2 := hide (p := ∀ W', Below w6.heap.size w6 W' → Calls Tryd.prog 30 #[.pointer (some ⟨g, 0, none⟩), .int .i64 2] W' fun e w' => e = .returned (.agg DA) ∧ Below W'.heap.size W' w') (fun W' hb => by
    have := root_ok g exE τ 2 W' (T6.below hb) (L6.call hb) (by decide) (by decide)
    rw [show exE.take 2 = [[97], [98]] from rfl, unhide HD2, hDA] at this
    exact this)
  have KKN := hide (p := ∀ W', Below w6.heap.size w6 W' → Calls Tryd.prog 52 #[.agg DA, .agg LA] W' fun e w' => e = .returned (.agg RA) ∧ Below W'.heap.size W' w') (fun W' hb => by
    have := rknot_any D2 LC W' (unhide HDD).1 (unhide HLL).1 (unhide HDD).2 (unhide HLL).2
    rw [hk3, hRA, hDA, unhide HLA] at this
    exact this)
  have KE1 := hide (p := ∀ W' n, n = W'.heap.size → Below w6.heap.size w6 W' → Calls Tryd.prog 32 #[.slice pa 1 pc, .slice (some ⟨n, 0, none⟩) 1 1] (W'.alloc (.cells DA 43)) fun e w' => e = .returned (.bool true) ∧ Below (W'.alloc (.cells DA 43)).heap.size (W'.alloc (.cells DA 43)) w') (fun W' n hn hb => by
    subst hn
    have := sums_equal _ _ [D2] [D2] _ (P6.call (bal hb (.cells DA 43))) (PS.of_sms (Sms.one (W := W') hDA (unhide HDD) (Nat.le_refl _)) (by simp))
    rw [decide_eq_true rfl] at this
    exact this)
  have KE2 := hide (p := ∀ W' n, n = W'.heap.size → Below w6.heap.size w6 W' → Calls Tryd.prog 32 #[.slice qa 1 qc, .slice (some ⟨n, 0, none⟩) 1 1] (W'.alloc (.cells LA 43)) fun e w' => e = .returned (.bool true) ∧ Below (W'.alloc (.cells LA 43)).heap.size (W'.alloc (.cells LA 43)) w') (fun W' n hn hb => by
    subst hn
    have := sums_equal _ _ [LC] [LC] _ (Q6.call (bal hb (.cells LA 43))) (PS.of_sms (Sms.one (W := W') (unhide HLA) (unhide HLL) (Nat.le_refl _)) (by simp))
    rw [decide_eq_true rfl] at this
    exact this)
  have KPC := hide (p := ∀ W' v, Byt W' v [99] → Below w6.heap.size w6 W' → Calls Tryd.prog 34 #[v, .int .i64 2, .int .i64 3, .slice pa 1 pc, .agg RA] W' fun e w' => e = .returned (.int .i64 0) ∧ Below W'.heap.size W' w') (fun W' v hv hb => by
    have := proves_ok v _ [99] 2 3 [D2] R3 W' (T6.below hb) hv (by intro y hy; simp at hy; omega) (by simp) (by decide) (by decide) (P6.call hb) r1
    rw [hpc, hRA] at this
    exact this)
  have KPD := hide (p := ∀ W' v, Byt W' v [100] → Below w6.heap.size w6 W' → Calls Tryd.prog 34 #[v, .int .i64 2, .int .i64 3, .slice pa 1 pc, .agg RA] W' fun e w' => e = .returned (.int .i64 140) ∧ Below W'.heap.size W' w') (fun W' v hv hb => by
    have := proves_ok v _ [100] 2 3 [D2] R3 W' (T6.below hb) hv (by intro y hy; simp at hy; omega) (by simp) (by decide) (by decide) (P6.call hb) r1
    rw [hpd, hRA] at this
    exact this)
  have q1 := eq_sums R3 R3 r1 r1
  rw [hRA, decide_eq_true rfl] at q1
  have dsz : DA.size = 32 := by rw [← hDA, List.size_toArray, bv_len, (unhide HDD).1]
  have lsz : LA.size = 32 := unhide HLS
  have fo1 : ∀ Zx : Array Value, Zx.size = 32 → Array.foldl (fun (cs : Array Value) (x : Value × Nat) => cs.setIfInBounds x.2 x.1) Zx DA.zipIdx 0 32 = DA := fun Zx hz => fold_build DA Zx 32 dsz hz
  have fo2 : ∀ Zx : Array Value, Zx.size = 32 → Array.foldl (fun (cs : Array Value) (x : Value × Nat) => cs.setIfInBounds x.2 x.1) Zx LA.zipIdx 0 32 = LA := fun Zx hz => fold_build LA Zx 32 lsz hz
  obtain ⟨X, hX⟩ : ∃ X, bv LC = X := ⟨_, rfl⟩
  have hXA : X.toArray = LA := by rw [← hX]; exact unhide HLA
  have hi : (Tryd.prog.info? 43).map (·.size) = some X.length := hX ▸ size43 (unhide HLL).1
  have hu := Tryd.underlying43
  have hst : KB w6 w6 gc X := ⟨fun j v hj => by
      have := (unhide HRC6).cell j
      rw [Nat.zero_add]
      rw [hX] at this
      exact this.trans hj, Below.refl _ _⟩
  have hk0 : Below w6.heap.size w6 w6.drew := (Below.refl _ _).drew
  have HB6 := hide (bcall (unhide HB2) B6)
  clear hR3 hRA hDA hX P6 Q6 T6 L6 r1 hk3 hpc hpd HX1 HX2 HX3 HLL HDD HLS HLO HLA HLC HD2 HRC6 HRC5 HS5 HB5 HT2 HL2 HZS hz b6 B6 S6 HGR v4 HB2
  have cv99 : ∀ W : World, (convert 22 22 (.slice (some ⟨W.heap.size, 0, none⟩) 1 1)).run Tryd.prog (W.alloc (.cells #[.int .u8 99] 5)) = .ok (.slice (some ⟨W.heap.size, 0, none⟩) 1 1) (W.alloc (.cells #[.int .u8 99] 5 (1, 2))) := fun W => conv_lit W 99 _ rfl
  have cv100 : ∀ W : World, (convert 22 22 (.slice (some ⟨W.heap.size, 0, none⟩) 1 1)).run Tryd.prog (W.alloc (.cells #[.int .u8 100] 5)) = .ok (.slice (some ⟨W.heap.size, 0, none⟩) 1 1) (W.alloc (.cells #[.int .u8 100] 5 (1, 2))) := fun W => conv_lit W 100 _ rfl
  have yl99 := hide (p := ∀ W : World, Byt (W.alloc (.cells #[.int .u8 99] 5 (1, 2))) (.slice (some ⟨W.heap.size, 0, none⟩) 1 1) [99]) (fun W => byt_lit W 99 (1, 2))
  have yl100 := hide (p := ∀ W : World, Byt (W.alloc (.cells #[.int .u8 100] 5 (1, 2))) (.slice (some ⟨W.heap.size, 0, none⟩) 1 1) [100]) (fun W => byt_lit W 100 (1, 2))
  have yf99 := hide (p := ∀ (W : World) (g : Nat), W.heap[g]? = some (.cells #[.int .u8 99] 5) → Byt (W.freeze ⟨g, 1, none⟩ 1) (.slice (some ⟨g, 0, none⟩) 1 1) [99]) (fun W g h => byt_freeze (x := 99) h)
  have yf100 := hide (p := ∀ (W : World) (g : Nat), W.heap[g]? = some (.cells #[.int .u8 100] 5) → Byt (W.freeze ⟨g, 1, none⟩ 1) (.slice (some ⟨g, 0, none⟩) 1 1) [100]) (fun W g h => byt_freeze (x := 100) h)
  clear hg hgc
  go_wp2_with fail
  refine wp_region_held_drew (S := fun w' => KB w6 w' gc X) (by kernel_rfl) (KB.call hst hk0) (fun hHeld => ?_)
  refine wpAnyH_take (i := 0) (oi := { dst := some 28, op := Op.move (Operand.tmp 1), type := 38, pos := "law.go:47", after := #[], guard := none }) (v := .pointer (some ⟨g, 0, none⟩)) rfl (by kernel_rfl) (by kernel_rfl) (by kernel_rfl) (fun _ _ _ h => h) (Or.inl ⟨by rfl, ?_⟩) hHeld ?_
  · intro w hSw
    first
      | rfl
      | (go_simp; done)
  try simp only [Act.put, List.setIfInBounds_toArray, List.set_cons_zero, List.set_cons_succ]
  refine wpAnyH_take (i := 2) (oi := { dst := some 30, op := Op.move (Operand.tmp 1), type := 38, pos := "law.go:47", after := #[], guard := none }) (v := .pointer (some ⟨g, 0, none⟩)) rfl (by kernel_rfl) (by kernel_rfl) (by kernel_rfl) (fun _ _ _ h => h) (Or.inl ⟨by rfl, ?_⟩) hHeld ?_
  · intro w hSw
    first
      | rfl
      | (go_simp; done)
  try simp only [Act.put, List.setIfInBounds_toArray, List.set_cons_zero, List.set_cons_succ]
  refine wpAnyH_take (i := 4) (oi := { dst := some 32, op := Op.load 43 (Operand.tmp 2), type := 43, pos := "law.go:47", after := #[], guard := none }) (v := .agg X.toArray) rfl (by kernel_rfl) (by kernel_rfl) (by kernel_rfl) (fun _ _ _ h => h)
    (yieldsIf_load_mid (by rfl) _ _ rfl gc 0 rfl X _ (fun w h => h.1) hu rfl hi) hHeld ?_
  try simp only [Act.put, List.setIfInBounds_toArray, List.set_cons_zero, List.set_cons_succ]
  rw [hXA]
  refine wpAnyH_ready (rs := [1]) (by kernel_rfl) (by simp) ?_
  refine AllReadyH.cons (o := { dst := some 29, op := Op.call { callee := Callee.value (Operand.func 30), args := #[Operand.tmp 28, Operand.const (Value.int IntKind.i64 3)], argTypes := #[38, 3] }, type := 43, pos := "law.go:47", after := #[{ on := 0, ground := Ground.data }], guard := none }) rfl (fun K hK => ?_) AllReadyH.nil
  go_simp
  refine Calls.mono (unhide KR3 _ hk0) ?_
  rintro e w13 ⟨rfl, b13⟩
  have k13 := bcall hk0 b13
  go_wp2_with fail
  refine hK.out _ _ ?_ (fun hHeld => ?_)
  · exact KB.call hst k13
  clear hK K
  try simp only [Act.put, List.setIfInBounds_toArray, List.set_cons_zero, List.set_cons_succ]
  clear hHeld
  have hHeld := KB.call hst k13
  refine wpAnyH_ready (rs := [3]) (by kernel_rfl) (by simp) ?_
  refine AllReadyH.cons (o := { dst := some 31, op := Op.call { callee := Callee.value (Operand.func 30), args := #[Operand.tmp 30, Operand.const (Value.int IntKind.i64 2)], argTypes := #[38, 3] }, type := 43, pos := "law.go:47", after := #[{ on := 2, ground := Ground.data }, { on := 1, ground := Ground.chain }], guard := none }) rfl (fun K hK => ?_) AllReadyH.nil
  go_simp
  refine Calls.mono (unhide KR2 w13 k13) ?_
  rintro e w14 ⟨rfl, b14⟩
  have k14 := bcall k13 b14
  go_wp2_with fail
  refine hK.out _ _ ?_ (fun hHeld => ?_)
  · exact KB.call hst k14
  clear hK K
  try simp only [Act.put, List.setIfInBounds_toArray, List.set_cons_zero, List.set_cons_succ]
  clear hHeld
  have hHeld := KB.call hst k14
  refine wpAnyH_ready (rs := [5]) (by kernel_rfl) (by simp) ?_
  refine AllReadyH.cons (o := { dst := some 33, op := Op.call { callee := Callee.value (Operand.func 52), args := #[Operand.tmp 31, Operand.tmp 32], argTypes := #[43, 43] }, type := 43, pos := "law.go:47", after := #[{ on := 3, ground := Ground.data }, { on := 4, ground := Ground.data }, { on := 3, ground := Ground.chain }], guard := none }) rfl (fun K hK => ?_) AllReadyH.nil
  go_simp
  refine Calls.mono (unhide KKN w14 k14) ?_
  rintro e w15 ⟨rfl, b15⟩
  have k15 := bcall k14 b15
  go_wp2_with fail
  refine hK.out _ _ ?_ (fun hHeld => ?_)
  · exact KB.call hst k15
  clear hK K
  try simp only [Act.put, List.setIfInBounds_toArray, List.set_cons_zero, List.set_cons_succ]
  clear hHeld
  have hHeld := KB.call hst k15
  refine wpAnyH_take (i := 6) (oi := { dst := some 34, op := Op.binOp BinOp.eql 43 (Operand.tmp 29) (Operand.tmp 33) 43, type := 4, pos := "law.go:47", after := #[{ on := 1, ground := Ground.data }, { on := 5, ground := Ground.data }], guard := none }) (v := .bool true) rfl (by kernel_rfl) (by kernel_rfl) (by kernel_rfl) (fun _ _ _ h => h) (Or.inl ⟨by rfl, ?_⟩) hHeld ?_
  · intro w hSw
    first
      | rfl
      | (go_simp; done)
  try simp only [Act.put, List.setIfInBounds_toArray, List.set_cons_zero, List.set_cons_succ]
  refine wpAnyH_take (i := 7) (oi := { dst := some 35, op := Op.move (Operand.tmp 34), type := 4, pos := "law.go:47", after := #[{ on := 6, ground := Ground.data }, { on := 5, ground := Ground.chain }], guard := none }) (v := .bool true) rfl (by kernel_rfl) (by kernel_rfl) (by kernel_rfl) (fun _ _ _ h => h) (Or.inl ⟨by rfl, ?_⟩) hHeld ?_
  · intro w hSw
    first
      | rfl
      | (go_simp; done)
  try simp only [Act.put, List.setIfInBounds_toArray, List.set_cons_zero, List.set_cons_succ]
  refine wpAnyH_take (i := 8) (oi := { dst := some 36, op := Op.move (Operand.tmp 4), type := 26, pos := "law.go:47", after := #[{ on := 7, ground := Ground.guard }], guard := some (7, true) }) (v := .int .i64 0) rfl (by kernel_rfl) (by kernel_rfl) (by kernel_rfl) (fun _ _ _ h => h) (Or.inl ⟨by rfl, ?_⟩) hHeld ?_
  · intro w hSw
    first
      | rfl
      | (go_simp; done)
  try simp only [Act.put, List.setIfInBounds_toArray, List.set_cons_zero, List.set_cons_succ]
  refine wpAnyH_take (i := 9) (oi := { dst := some 37, op := Op.binOp BinOp.eql 26 (Operand.tmp 36) (Operand.const (Value.int IntKind.i64 0)) 26, type := 4, pos := "law.go:47", after := #[{ on := 8, ground := Ground.data }, { on := 7, ground := Ground.guard }], guard := some (7, true) }) (v := .bool true) rfl (by kernel_rfl) (by kernel_rfl) (by kernel_rfl) (fun _ _ _ h => h) (Or.inl ⟨by rfl, ?_⟩) hHeld ?_
  · intro w hSw
    first
      | rfl
      | (go_simp; done)
  try simp only [Act.put, List.setIfInBounds_toArray, List.set_cons_zero, List.set_cons_succ]
  refine wpAnyH_take (i := 10) (oi := { dst := some 38, op := Op.pick (Operand.tmp 35) (Operand.tmp 37) (Operand.const (Value.bool false)), type := 4, pos := "law.go:47", after := #[{ on := 7, ground := Ground.data }, { on := 9, ground := Ground.data }], guard := none }) (v := .bool true) rfl (by kernel_rfl) (by kernel_rfl) (by kernel_rfl) (fun _ _ _ h => h) (Or.inl ⟨by rfl, ?_⟩) hHeld ?_
  · intro w hSw
    first
      | rfl
      | (go_simp; done)
  try simp only [Act.put, List.setIfInBounds_toArray, List.set_cons_zero, List.set_cons_succ]
  refine wpAnyH_take (i := 11) (oi := { dst := some 39, op := Op.move (Operand.tmp 38), type := 4, pos := "law.go:47", after := #[{ on := 10, ground := Ground.data }, { on := 7, ground := Ground.chain }], guard := none }) (v := .bool true) rfl (by kernel_rfl) (by kernel_rfl) (by kernel_rfl) (fun _ _ _ h => h) (Or.inl ⟨by rfl, ?_⟩) hHeld ?_
  · intro w hSw
    first
      | rfl
      | (go_simp; done)
  try simp only [Act.put, List.setIfInBounds_toArray, List.set_cons_zero, List.set_cons_succ]
  refine wpAnyH_take (i := 12) (oi := { dst := some 40, op := Op.move (Operand.tmp 3), type := 54, pos := "law.go:47", after := #[{ on := 11, ground := Ground.guard }], guard := some (11, true) }) (v := .slice pa 1 pc) rfl (by kernel_rfl) (by kernel_rfl) (by kernel_rfl) (fun _ _ _ h => h) (Or.inl ⟨by rfl, ?_⟩) hHeld ?_
  · intro w hSw
    first
      | rfl
      | (go_simp; done)
  try simp only [Act.put, List.setIfInBounds_toArray, List.set_cons_zero, List.set_cons_succ]
  refine wpAnyH_take (i := 13) (oi := { dst := some 41, op := Op.move (Operand.tmp 1), type := 38, pos := "law.go:47", after := #[{ on := 11, ground := Ground.guard }], guard := some (11, true) }) (v := .pointer (some ⟨g, 0, none⟩)) rfl (by kernel_rfl) (by kernel_rfl) (by kernel_rfl) (fun _ _ _ h => h) (Or.inl ⟨by rfl, ?_⟩) hHeld ?_
  · intro w hSw
    first
      | rfl
      | (go_simp; done)
  try simp only [Act.put, List.setIfInBounds_toArray, List.set_cons_zero, List.set_cons_succ]
  refine wpAnyH_ready (rs := [14]) (by kernel_rfl) (by simp) ?_
  refine AllReadyH.cons (o := { dst := some 42, op := Op.call { callee := Callee.value (Operand.func 30), args := #[Operand.tmp 41, Operand.const (Value.int IntKind.i64 2)], argTypes := #[38, 3] }, type := 43, pos := "law.go:47", after := #[{ on := 13, ground := Ground.data }, { on := 11, ground := Ground.chain }, { on := 11, ground := Ground.guard }], guard := some (11, true) }) rfl (fun K hK => ?_) AllReadyH.nil
  go_simp
  refine Calls.mono (unhide KR2 w15 k15) ?_
  rintro e w16 ⟨rfl, b16⟩
  have k16 := bcall k15 b16
  go_wp2_with fail
  refine hK.out _ _ ?_ (fun hHeld => ?_)
  · exact KB.call hst k16
  clear hK K
  try simp only [Act.put, List.setIfInBounds_toArray, List.set_cons_zero, List.set_cons_succ]
  clear hHeld
  have hHeld := KB.call hst k16
  refine wpAnyH_ready (rs := [15]) (by kernel_rfl) (by simp) ?_
  refine AllReadyH.cons (o := { dst := some 43, op := Op.buildSlice 54 1 #[(0, Operand.tmp 42)], type := 54, pos := "law.go:47", after := #[{ on := 14, ground := Ground.data }, { on := 11, ground := Ground.guard }], guard := some (11, true) }) rfl (fun K hK => ?_) AllReadyH.nil
  go_simp
  refine hK.out _ _ ?_ (fun hHeld => ?_)
  · exact KB.call hst (bal k16 _)
  clear hK K
  try simp only [Act.put, List.setIfInBounds_toArray, List.set_cons_zero, List.set_cons_succ]
  refine wpAnyH_ready (rs := [16]) (by kernel_rfl) (by simp) ?_
  refine AllReadyH.cons (o := { dst := some 44, op := Op.call { callee := Callee.value (Operand.func 32), args := #[Operand.tmp 40, Operand.tmp 43], argTypes := #[54, 54] }, type := 4, pos := "law.go:47", after := #[{ on := 12, ground := Ground.data }, { on := 15, ground := Ground.data }, { on := 14, ground := Ground.chain }, { on := 11, ground := Ground.guard }], guard := some (11, true) }) rfl (fun K hK => ?_) AllReadyH.nil
  go_simp
  refine Calls.mono (unhide KE1 w16 _ rfl k16) ?_
  rintro e w17 ⟨rfl, b17⟩
  have k17 := bcall (bal k16 _) b17
  go_wp2_with fail
  refine hK.out _ _ ?_ (fun hHeld => ?_)
  · exact KB.call hst k17
  clear hK K
  try simp only [Act.put, List.setIfInBounds_toArray, List.set_cons_zero, List.set_cons_succ]
  clear hHeld
  have hHeld := KB.call hst k17
  refine wpAnyH_take (i := 17) (oi := { dst := some 45, op := Op.pick (Operand.tmp 39) (Operand.tmp 44) (Operand.const (Value.bool false)), type := 4, pos := "law.go:47", after := #[{ on := 11, ground := Ground.data }, { on := 16, ground := Ground.data }], guard := none }) (v := .bool true) rfl (by kernel_rfl) (by kernel_rfl) (by kernel_rfl) (fun _ _ _ h => h) (Or.inl ⟨by rfl, ?_⟩) hHeld ?_
  · intro w hSw
    first
      | rfl
      | (go_simp; done)
  try simp only [Act.put, List.setIfInBounds_toArray, List.set_cons_zero, List.set_cons_succ]
  refine wpAnyH_take (i := 18) (oi := { dst := some 46, op := Op.move (Operand.tmp 45), type := 4, pos := "law.go:47", after := #[{ on := 17, ground := Ground.data }, { on := 16, ground := Ground.chain }], guard := none }) (v := .bool true) rfl (by kernel_rfl) (by kernel_rfl) (by kernel_rfl) (fun _ _ _ h => h) (Or.inl ⟨by rfl, ?_⟩) hHeld ?_
  · intro w hSw
    first
      | rfl
      | (go_simp; done)
  try simp only [Act.put, List.setIfInBounds_toArray, List.set_cons_zero, List.set_cons_succ]
  refine wpAnyH_take (i := 19) (oi := { dst := some 47, op := Op.move (Operand.tmp 6), type := 26, pos := "law.go:47", after := #[{ on := 18, ground := Ground.guard }], guard := some (18, true) }) (v := .int .i64 0) rfl (by kernel_rfl) (by kernel_rfl) (by kernel_rfl) (fun _ _ _ h => h) (Or.inl ⟨by rfl, ?_⟩) hHeld ?_
  · intro w hSw
    first
      | rfl
      | (go_simp; done)
  try simp only [Act.put, List.setIfInBounds_toArray, List.set_cons_zero, List.set_cons_succ]
  refine wpAnyH_take (i := 20) (oi := { dst := some 48, op := Op.binOp BinOp.eql 26 (Operand.tmp 47) (Operand.const (Value.int IntKind.i64 0)) 26, type := 4, pos := "law.go:47", after := #[{ on := 19, ground := Ground.data }, { on := 18, ground := Ground.guard }], guard := some (18, true) }) (v := .bool true) rfl (by kernel_rfl) (by kernel_rfl) (by kernel_rfl) (fun _ _ _ h => h) (Or.inl ⟨by rfl, ?_⟩) hHeld ?_
  · intro w hSw
    first
      | rfl
      | (go_simp; done)
  try simp only [Act.put, List.setIfInBounds_toArray, List.set_cons_zero, List.set_cons_succ]
  refine wpAnyH_take (i := 21) (oi := { dst := some 49, op := Op.pick (Operand.tmp 46) (Operand.tmp 48) (Operand.const (Value.bool false)), type := 4, pos := "law.go:47", after := #[{ on := 18, ground := Ground.data }, { on := 20, ground := Ground.data }], guard := none }) (v := .bool true) rfl (by kernel_rfl) (by kernel_rfl) (by kernel_rfl) (fun _ _ _ h => h) (Or.inl ⟨by rfl, ?_⟩) hHeld ?_
  · intro w hSw
    first
      | rfl
      | (go_simp; done)
  try simp only [Act.put, List.setIfInBounds_toArray, List.set_cons_zero, List.set_cons_succ]
  refine wpAnyH_take (i := 22) (oi := { dst := some 50, op := Op.move (Operand.tmp 49), type := 4, pos := "law.go:47", after := #[{ on := 21, ground := Ground.data }, { on := 18, ground := Ground.chain }], guard := none }) (v := .bool true) rfl (by kernel_rfl) (by kernel_rfl) (by kernel_rfl) (fun _ _ _ h => h) (Or.inl ⟨by rfl, ?_⟩) hHeld ?_
  · intro w hSw
    first
      | rfl
      | (go_simp; done)
  try simp only [Act.put, List.setIfInBounds_toArray, List.set_cons_zero, List.set_cons_succ]
  refine wpAnyH_take (i := 23) (oi := { dst := some 51, op := Op.move (Operand.tmp 5), type := 54, pos := "law.go:47", after := #[{ on := 22, ground := Ground.guard }], guard := some (22, true) }) (v := .slice qa 1 qc) rfl (by kernel_rfl) (by kernel_rfl) (by kernel_rfl) (fun _ _ _ h => h) (Or.inl ⟨by rfl, ?_⟩) hHeld ?_
  · intro w hSw
    first
      | rfl
      | (go_simp; done)
  try simp only [Act.put, List.setIfInBounds_toArray, List.set_cons_zero, List.set_cons_succ]
  refine wpAnyH_take (i := 24) (oi := { dst := some 52, op := Op.load 43 (Operand.tmp 2), type := 43, pos := "law.go:47", after := #[{ on := 22, ground := Ground.guard }], guard := some (22, true) }) (v := .agg X.toArray) rfl (by kernel_rfl) (by kernel_rfl) (by kernel_rfl) (fun _ _ _ h => h)
    (yieldsIf_load_mid (by rfl) _ _ rfl gc 0 rfl X _ (fun w h => h.1) hu rfl hi) hHeld ?_
  try simp only [Act.put, List.setIfInBounds_toArray, List.set_cons_zero, List.set_cons_succ]
  rw [hXA]
  refine wpAnyH_ready (rs := [25]) (by kernel_rfl) (by simp) ?_
  refine AllReadyH.cons (o := { dst := some 53, op := Op.buildSlice 54 1 #[(0, Operand.tmp 52)], type := 54, pos := "law.go:47", after := #[{ on := 24, ground := Ground.data }, { on := 22, ground := Ground.guard }], guard := some (22, true) }) rfl (fun K hK => ?_) AllReadyH.nil
  go_simp
  refine hK.out _ _ ?_ (fun hHeld => ?_)
  · exact KB.call hst (bal k17 _)
  clear hK K
  try simp only [Act.put, List.setIfInBounds_toArray, List.set_cons_zero, List.set_cons_succ]
  refine wpAnyH_ready (rs := [26]) (by kernel_rfl) (by simp) ?_
  refine AllReadyH.cons (o := { dst := some 54, op := Op.call { callee := Callee.value (Operand.func 32), args := #[Operand.tmp 51, Operand.tmp 53], argTypes := #[54, 54] }, type := 4, pos := "law.go:47", after := #[{ on := 23, ground := Ground.data }, { on := 25, ground := Ground.data }, { on := 22, ground := Ground.chain }, { on := 22, ground := Ground.guard }], guard := some (22, true) }) rfl (fun K hK => ?_) AllReadyH.nil
  go_simp
  refine Calls.mono (unhide KE2 w17 _ rfl k17) ?_
  rintro e w18 ⟨rfl, b18⟩
  have k18 := bcall (bal k17 _) b18
  go_wp2_with fail
  refine hK.out _ _ ?_ (fun hHeld => ?_)
  · exact KB.call hst k18
  clear hK K
  try simp only [Act.put, List.setIfInBounds_toArray, List.set_cons_zero, List.set_cons_succ]
  clear hHeld
  have hHeld := KB.call hst k18
  refine wpAnyH_take (i := 27) (oi := { dst := some 55, op := Op.pick (Operand.tmp 50) (Operand.tmp 54) (Operand.const (Value.bool false)), type := 4, pos := "law.go:47", after := #[{ on := 22, ground := Ground.data }, { on := 26, ground := Ground.data }], guard := none }) (v := .bool true) rfl (by kernel_rfl) (by kernel_rfl) (by kernel_rfl) (fun _ _ _ h => h) (Or.inl ⟨by rfl, ?_⟩) hHeld ?_
  · intro w hSw
    first
      | rfl
      | (go_simp; done)
  try simp only [Act.put, List.setIfInBounds_toArray, List.set_cons_zero, List.set_cons_succ]
  refine wpAnyH_take (i := 28) (oi := { dst := some 56, op := Op.move (Operand.tmp 55), type := 4, pos := "law.go:47", after := #[{ on := 27, ground := Ground.data }, { on := 26, ground := Ground.chain }], guard := none }) (v := .bool true) rfl (by kernel_rfl) (by kernel_rfl) (by kernel_rfl) (fun _ _ _ h => h) (Or.inl ⟨by rfl, ?_⟩) hHeld ?_
  · intro w hSw
    first
      | rfl
      | (go_simp; done)
  try simp only [Act.put, List.setIfInBounds_toArray, List.set_cons_zero, List.set_cons_succ]
  refine wpAnyH_take (i := 31) (oi := { dst := some 59, op := Op.move (Operand.tmp 3), type := 54, pos := "law.go:47", after := #[{ on := 28, ground := Ground.guard }], guard := some (28, true) }) (v := .slice pa 1 pc) rfl (by kernel_rfl) (by kernel_rfl) (by kernel_rfl) (fun _ _ _ h => h) (Or.inl ⟨by rfl, ?_⟩) hHeld ?_
  · intro w hSw
    first
      | rfl
      | (go_simp; done)
  try simp only [Act.put, List.setIfInBounds_toArray, List.set_cons_zero, List.set_cons_succ]
  refine wpAnyH_take (i := 32) (oi := { dst := some 60, op := Op.move (Operand.tmp 1), type := 38, pos := "law.go:47", after := #[{ on := 28, ground := Ground.guard }], guard := some (28, true) }) (v := .pointer (some ⟨g, 0, none⟩)) rfl (by kernel_rfl) (by kernel_rfl) (by kernel_rfl) (fun _ _ _ h => h) (Or.inl ⟨by rfl, ?_⟩) hHeld ?_
  · intro w hSw
    first
      | rfl
      | (go_simp; done)
  try simp only [Act.put, List.setIfInBounds_toArray, List.set_cons_zero, List.set_cons_succ]
  refine wpAnyH_ready (rs := [29, 33]) (by kernel_rfl) (by simp) ?_
  refine AllReadyH.cons (o := { dst := some 57, op := Op.buildSlice 22 1 #[(0, Operand.const (Value.int IntKind.u8 99))], type := 22, pos := "law.go:47", after := #[{ on := 28, ground := Ground.guard }], guard := some (28, true) }) rfl (fun K hK => ?_) (AllReadyH.cons (o := { dst := some 61, op := Op.call { callee := Callee.value (Operand.func 30), args := #[Operand.tmp 60, Operand.const (Value.int IntKind.i64 3)], argTypes := #[38, 3] }, type := 43, pos := "law.go:47", after := #[{ on := 32, ground := Ground.data }, { on := 28, ground := Ground.chain }, { on := 28, ground := Ground.guard }], guard := some (28, true) }) rfl (fun K hK => ?_) AllReadyH.nil)
  · go_simp
    refine hK.out _ _ ?_ (fun hHeld => ?_)
    · exact KB.call hst (bal k18 _)
    clear hK K
    try simp only [Act.put, List.setIfInBounds_toArray, List.set_cons_zero, List.set_cons_succ]
    refine wpAnyH_ready (rs := [30, 33]) (by kernel_rfl) (by simp) ?_
    refine AllReadyH.cons (o := { dst := some 58, op := Op.convert 22 22 (Operand.tmp 57), type := 22, pos := "law.go:47", after := #[{ on := 29, ground := Ground.data }, { on := 28, ground := Ground.guard }], guard := some (28, true) }) rfl (fun K hK => ?_) (AllReadyH.cons (o := { dst := some 61, op := Op.call { callee := Callee.value (Operand.func 30), args := #[Operand.tmp 60, Operand.const (Value.int IntKind.i64 3)], argTypes := #[38, 3] }, type := 43, pos := "law.go:47", after := #[{ on := 32, ground := Ground.data }, { on := 28, ground := Ground.chain }, { on := 28, ground := Ground.guard }], guard := some (28, true) }) rfl (fun K hK => ?_) AllReadyH.nil)
    · go_simp
      refine hK.out _ _ ?_ (fun hHeld => ?_)
      · exact KB.call hst (bal k18 _)
      clear hK K
      try simp only [Act.put, List.setIfInBounds_toArray, List.set_cons_zero, List.set_cons_succ]
      refine wpAnyH_ready (rs := [33]) (by kernel_rfl) (by simp) ?_
      refine AllReadyH.cons (o := { dst := some 61, op := Op.call { callee := Callee.value (Operand.func 30), args := #[Operand.tmp 60, Operand.const (Value.int IntKind.i64 3)], argTypes := #[38, 3] }, type := 43, pos := "law.go:47", after := #[{ on := 32, ground := Ground.data }, { on := 28, ground := Ground.chain }, { on := 28, ground := Ground.guard }], guard := some (28, true) }) rfl (fun K hK => ?_) AllReadyH.nil
      go_simp
      refine Calls.mono (unhide KR3 (w18.alloc (.cells #[.int .u8 99] 5 (1, 2))) (bal k18 _)) ?_
      rintro e w19 ⟨rfl, b19⟩
      have k19 := bcall (bal k18 _) b19
      have y19 := hide ((unhide yl99 w18).call b19)
      go_wp2_with fail
      refine hK.out _ _ ?_ (fun hHeld => ?_)
      · exact KB.call hst k19
      clear hK K
      try simp only [Act.put, List.setIfInBounds_toArray, List.set_cons_zero, List.set_cons_succ]
      clear hHeld
      have hHeld := KB.call hst k19
      refine wpAnyH_ready (rs := [34]) (by kernel_rfl) (by simp) ?_
      refine AllReadyH.cons (o := { dst := some 62, op := Op.call { callee := Callee.value (Operand.func 34), args := #[Operand.tmp 58, Operand.const (Value.int IntKind.i64 2), Operand.const (Value.int IntKind.i64 3), Operand.tmp 59, Operand.tmp 61], argTypes := #[22, 3, 3, 54, 43] }, type := 26, pos := "law.go:47", after := #[{ on := 30, ground := Ground.data }, { on := 31, ground := Ground.data }, { on := 33, ground := Ground.data }, { on := 33, ground := Ground.chain }, { on := 28, ground := Ground.guard }], guard := some (28, true) }) rfl (fun K hK => ?_) AllReadyH.nil
      go_simp
      refine Calls.mono (unhide KPC w19 _ (unhide y19) k19) ?_
      rintro e w20 ⟨rfl, b20⟩
      have k20 := bcall k19 b20
      go_wp2_with fail
      refine hK.out _ _ ?_ (fun hHeld => ?_)
      · exact KB.call hst k20
      clear hK K
      try simp only [Act.put, List.setIfInBounds_toArray, List.set_cons_zero, List.set_cons_succ]
      clear hHeld
      have hHeld := KB.call hst k20
      refine wpAnyH_take (i := 35) (oi := { dst := some 63, op := Op.binOp BinOp.eql 26 (Operand.tmp 62) (Operand.const (Value.int IntKind.i64 0)) 26, type := 4, pos := "law.go:47", after := #[{ on := 34, ground := Ground.data }, { on := 28, ground := Ground.guard }], guard := some (28, true) }) (v := .bool true) rfl (by kernel_rfl) (by kernel_rfl) (by kernel_rfl) (fun _ _ _ h => h) (Or.inl ⟨by rfl, ?_⟩) hHeld ?_
      · intro w hSw
        first
          | rfl
          | (go_simp; done)
      try simp only [Act.put, List.setIfInBounds_toArray, List.set_cons_zero, List.set_cons_succ]
      refine wpAnyH_take (i := 36) (oi := { dst := some 64, op := Op.pick (Operand.tmp 56) (Operand.tmp 63) (Operand.const (Value.bool false)), type := 4, pos := "law.go:47", after := #[{ on := 28, ground := Ground.data }, { on := 35, ground := Ground.data }], guard := none }) (v := .bool true) rfl (by kernel_rfl) (by kernel_rfl) (by kernel_rfl) (fun _ _ _ h => h) (Or.inl ⟨by rfl, ?_⟩) hHeld ?_
      · intro w hSw
        first
          | rfl
          | (go_simp; done)
      try simp only [Act.put, List.setIfInBounds_toArray, List.set_cons_zero, List.set_cons_succ]
      refine wpAnyH_take (i := 37) (oi := { dst := some 65, op := Op.move (Operand.tmp 64), type := 4, pos := "law.go:47", after := #[{ on := 36, ground := Ground.data }, { on := 34, ground := Ground.chain }], guard := none }) (v := .bool true) rfl (by kernel_rfl) (by kernel_rfl) (by kernel_rfl) (fun _ _ _ h => h) (Or.inl ⟨by rfl, ?_⟩) hHeld ?_
      · intro w hSw
        first
          | rfl
          | (go_simp; done)
      try simp only [Act.put, List.setIfInBounds_toArray, List.set_cons_zero, List.set_cons_succ]
      refine wpAnyH_take (i := 40) (oi := { dst := some 68, op := Op.move (Operand.tmp 3), type := 54, pos := "law.go:47", after := #[{ on := 37, ground := Ground.guard }], guard := some (37, true) }) (v := .slice pa 1 pc) rfl (by kernel_rfl) (by kernel_rfl) (by kernel_rfl) (fun _ _ _ h => h) (Or.inl ⟨by rfl, ?_⟩) hHeld ?_
      · intro w hSw
        first
          | rfl
          | (go_simp; done)
      try simp only [Act.put, List.setIfInBounds_toArray, List.set_cons_zero, List.set_cons_succ]
      refine wpAnyH_take (i := 41) (oi := { dst := some 69, op := Op.move (Operand.tmp 1), type := 38, pos := "law.go:47", after := #[{ on := 37, ground := Ground.guard }], guard := some (37, true) }) (v := .pointer (some ⟨g, 0, none⟩)) rfl (by kernel_rfl) (by kernel_rfl) (by kernel_rfl) (fun _ _ _ h => h) (Or.inl ⟨by rfl, ?_⟩) hHeld ?_
      · intro w hSw
        first
          | rfl
          | (go_simp; done)
      try simp only [Act.put, List.setIfInBounds_toArray, List.set_cons_zero, List.set_cons_succ]
      refine wpAnyH_ready (rs := [38, 42]) (by kernel_rfl) (by simp) ?_
      refine AllReadyH.cons (o := { dst := some 66, op := Op.buildSlice 22 1 #[(0, Operand.const (Value.int IntKind.u8 100))], type := 22, pos := "law.go:47", after := #[{ on := 37, ground := Ground.guard }], guard := some (37, true) }) rfl (fun K hK => ?_) (AllReadyH.cons (o := { dst := some 70, op := Op.call { callee := Callee.value (Operand.func 30), args := #[Operand.tmp 69, Operand.const (Value.int IntKind.i64 3)], argTypes := #[38, 3] }, type := 43, pos := "law.go:47", after := #[{ on := 41, ground := Ground.data }, { on := 37, ground := Ground.chain }, { on := 37, ground := Ground.guard }], guard := some (37, true) }) rfl (fun K hK => ?_) AllReadyH.nil)
      · go_simp
        refine hK.out _ _ ?_ (fun hHeld => ?_)
        · exact KB.call hst (bal k20 _)
        clear hK K
        try simp only [Act.put, List.setIfInBounds_toArray, List.set_cons_zero, List.set_cons_succ]
        refine wpAnyH_ready (rs := [39, 42]) (by kernel_rfl) (by simp) ?_
        refine AllReadyH.cons (o := { dst := some 67, op := Op.convert 22 22 (Operand.tmp 66), type := 22, pos := "law.go:47", after := #[{ on := 38, ground := Ground.data }, { on := 37, ground := Ground.guard }], guard := some (37, true) }) rfl (fun K hK => ?_) (AllReadyH.cons (o := { dst := some 70, op := Op.call { callee := Callee.value (Operand.func 30), args := #[Operand.tmp 69, Operand.const (Value.int IntKind.i64 3)], argTypes := #[38, 3] }, type := 43, pos := "law.go:47", after := #[{ on := 41, ground := Ground.data }, { on := 37, ground := Ground.chain }, { on := 37, ground := Ground.guard }], guard := some (37, true) }) rfl (fun K hK => ?_) AllReadyH.nil)
        · go_simp
          refine hK.out _ _ ?_ (fun hHeld => ?_)
          · exact KB.call hst (bal k20 _)
          clear hK K
          try simp only [Act.put, List.setIfInBounds_toArray, List.set_cons_zero, List.set_cons_succ]
          refine wpAnyH_ready (rs := [42]) (by kernel_rfl) (by simp) ?_
          refine AllReadyH.cons (o := { dst := some 70, op := Op.call { callee := Callee.value (Operand.func 30), args := #[Operand.tmp 69, Operand.const (Value.int IntKind.i64 3)], argTypes := #[38, 3] }, type := 43, pos := "law.go:47", after := #[{ on := 41, ground := Ground.data }, { on := 37, ground := Ground.chain }, { on := 37, ground := Ground.guard }], guard := some (37, true) }) rfl (fun K hK => ?_) AllReadyH.nil
          go_simp
          refine Calls.mono (unhide KR3 (w20.alloc (.cells #[.int .u8 100] 5 (1, 2))) (bal k20 _)) ?_
          rintro e w21 ⟨rfl, b21⟩
          have k21 := bcall (bal k20 _) b21
          have y21 := hide ((unhide yl100 w20).call b21)
          go_wp2_with fail
          refine hK.out _ _ ?_ (fun hHeld => ?_)
          · exact KB.call hst k21
          clear hK K
          try simp only [Act.put, List.setIfInBounds_toArray, List.set_cons_zero, List.set_cons_succ]
          clear hHeld
          have hHeld := KB.call hst k21
          refine wpAnyH_ready (rs := [43]) (by kernel_rfl) (by simp) ?_
          refine AllReadyH.cons (o := { dst := some 71, op := Op.call { callee := Callee.value (Operand.func 34), args := #[Operand.tmp 67, Operand.const (Value.int IntKind.i64 2), Operand.const (Value.int IntKind.i64 3), Operand.tmp 68, Operand.tmp 70], argTypes := #[22, 3, 3, 54, 43] }, type := 26, pos := "law.go:47", after := #[{ on := 39, ground := Ground.data }, { on := 40, ground := Ground.data }, { on := 42, ground := Ground.data }, { on := 42, ground := Ground.chain }, { on := 37, ground := Ground.guard }], guard := some (37, true) }) rfl (fun K hK => ?_) AllReadyH.nil
          go_simp
          refine Calls.mono (unhide KPD w21 _ (unhide y21) k21) ?_
          rintro e w22 ⟨rfl, b22⟩
          have k22 := bcall k21 b22
          go_wp2_with fail
          refine hK.out _ _ ?_ (fun hHeld => ?_)
          · exact KB.call hst k22
          clear hK K
          try simp only [Act.put, List.setIfInBounds_toArray, List.set_cons_zero, List.set_cons_succ]
          clear hHeld
          have hHeld := KB.call hst k22
          refine wpAnyH_take (i := 44) (oi := { dst := some 72, op := Op.binOp BinOp.eql 26 (Operand.tmp 71) (Operand.const (Value.int IntKind.i64 140)) 26, type := 4, pos := "law.go:47", after := #[{ on := 43, ground := Ground.data }, { on := 37, ground := Ground.guard }], guard := some (37, true) }) (v := .bool true) rfl (by kernel_rfl) (by kernel_rfl) (by kernel_rfl) (fun _ _ _ h => h) (Or.inl ⟨by rfl, ?_⟩) hHeld ?_
          · intro w hSw
            first
              | rfl
              | (go_simp; done)
          try simp only [Act.put, List.setIfInBounds_toArray, List.set_cons_zero, List.set_cons_succ]
          refine wpAnyH_take (i := 45) (oi := { dst := some 73, op := Op.pick (Operand.tmp 65) (Operand.tmp 72) (Operand.const (Value.bool false)), type := 4, pos := "law.go:47", after := #[{ on := 37, ground := Ground.data }, { on := 44, ground := Ground.data }], guard := none }) (v := .bool true) rfl (by kernel_rfl) (by kernel_rfl) (by kernel_rfl) (fun _ _ _ h => h) (Or.inl ⟨by rfl, ?_⟩) hHeld ?_
          · intro w hSw
            first
              | rfl
              | (go_simp; done)
          try simp only [Act.put, List.setIfInBounds_toArray, List.set_cons_zero, List.set_cons_succ]
          refine wpAnyH_take (i := 46) (oi := { dst := some 0, op := Op.assign (Operand.tmp 73), type := 4, pos := "law.go:47", after := #[{ on := 45, ground := Ground.data }, { on := 43, ground := Ground.chain }, { on := 0, ground := Ground.phase }, { on := 1, ground := Ground.phase }, { on := 2, ground := Ground.phase }, { on := 3, ground := Ground.phase }, { on := 4, ground := Ground.phase }, { on := 5, ground := Ground.phase }, { on := 6, ground := Ground.phase }, { on := 7, ground := Ground.phase }, { on := 8, ground := Ground.phase }, { on := 9, ground := Ground.phase }, { on := 10, ground := Ground.phase }, { on := 11, ground := Ground.phase }, { on := 12, ground := Ground.phase }, { on := 13, ground := Ground.phase }, { on := 14, ground := Ground.phase }, { on := 15, ground := Ground.phase }, { on := 16, ground := Ground.phase }, { on := 17, ground := Ground.phase }, { on := 18, ground := Ground.phase }, { on := 19, ground := Ground.phase }, { on := 20, ground := Ground.phase }, { on := 21, ground := Ground.phase }, { on := 22, ground := Ground.phase }, { on := 23, ground := Ground.phase }, { on := 24, ground := Ground.phase }, { on := 25, ground := Ground.phase }, { on := 26, ground := Ground.phase }, { on := 27, ground := Ground.phase }, { on := 28, ground := Ground.phase }, { on := 29, ground := Ground.phase }, { on := 30, ground := Ground.phase }, { on := 31, ground := Ground.phase }, { on := 32, ground := Ground.phase }, { on := 33, ground := Ground.phase }, { on := 34, ground := Ground.phase }, { on := 35, ground := Ground.phase }, { on := 36, ground := Ground.phase }, { on := 37, ground := Ground.phase }, { on := 38, ground := Ground.phase }, { on := 39, ground := Ground.phase }, { on := 40, ground := Ground.phase }, { on := 41, ground := Ground.phase }, { on := 42, ground := Ground.phase }, { on := 43, ground := Ground.phase }, { on := 44, ground := Ground.phase }, { on := 45, ground := Ground.phase }], guard := none }) (v := .bool true) rfl (by kernel_rfl) (by kernel_rfl) (by kernel_rfl) (fun _ _ _ h => h) (Or.inl ⟨by rfl, ?_⟩) hHeld ?_
          · intro w hSw
            first
              | rfl
              | (go_simp; done)
          try simp only [Act.put, List.setIfInBounds_toArray, List.set_cons_zero, List.set_cons_succ]
          refine wpAnyH_done (by kernel_rfl) ?_ _
          go_wp2_with fail
          go_ret
          exact ⟨by first | rfl | kernel_rfl, bcall (unhide HB6) k22⟩
        · go_simp
          refine Calls.mono (unhide KR3 (w20.alloc (.cells #[.int .u8 100] 5)) (bal k20 _)) ?_
          rintro e w21 ⟨rfl, b21⟩
          have k21 := bcall (bal k20 _) b21
          have h21 := hide ((b21.block w20.heap.size (by rw [size_alloc]; omega)).trans (heap_alloc_new w20 (.cells #[.int .u8 100] 5)))
          have cv21 := conv_late (unhide h21)
          go_wp2_with fail
          refine hK.out _ _ ?_ (fun hHeld => ?_)
          · exact KB.call hst k21
          clear hK K
          try simp only [Act.put, List.setIfInBounds_toArray, List.set_cons_zero, List.set_cons_succ]
          clear hHeld
          have hHeld := KB.call hst k21
          refine wpAnyH_ready (rs := [39]) (by kernel_rfl) (by simp) ?_
          refine AllReadyH.cons (o := { dst := some 67, op := Op.convert 22 22 (Operand.tmp 66), type := 22, pos := "law.go:47", after := #[{ on := 38, ground := Ground.data }, { on := 37, ground := Ground.guard }], guard := some (37, true) }) rfl (fun K hK => ?_) AllReadyH.nil
          go_simp
          refine hK.out _ _ ?_ (fun hHeld => ?_)
          · exact KB.call hst (bfreeze k21 k20.size)
          clear hK K
          try simp only [Act.put, List.setIfInBounds_toArray, List.set_cons_zero, List.set_cons_succ]
          clear cv21
          refine wpAnyH_ready (rs := [43]) (by kernel_rfl) (by simp) ?_
          refine AllReadyH.cons (o := { dst := some 71, op := Op.call { callee := Callee.value (Operand.func 34), args := #[Operand.tmp 67, Operand.const (Value.int IntKind.i64 2), Operand.const (Value.int IntKind.i64 3), Operand.tmp 68, Operand.tmp 70], argTypes := #[22, 3, 3, 54, 43] }, type := 26, pos := "law.go:47", after := #[{ on := 39, ground := Ground.data }, { on := 40, ground := Ground.data }, { on := 42, ground := Ground.data }, { on := 42, ground := Ground.chain }, { on := 37, ground := Ground.guard }], guard := some (37, true) }) rfl (fun K hK => ?_) AllReadyH.nil
          go_simp
          refine Calls.mono (unhide KPD (w21.freeze ⟨w20.heap.size, 1, none⟩ 1) _ (unhide yf100 _ _ (unhide h21)) (bfreeze k21 k20.size)) ?_
          rintro e w22 ⟨rfl, b22⟩
          have k22 := bcall (bfreeze k21 k20.size) b22
          go_wp2_with fail
          refine hK.out _ _ ?_ (fun hHeld => ?_)
          · exact KB.call hst k22
          clear hK K
          try simp only [Act.put, List.setIfInBounds_toArray, List.set_cons_zero, List.set_cons_succ]
          clear hHeld
          have hHeld := KB.call hst k22
          refine wpAnyH_take (i := 44) (oi := { dst := some 72, op := Op.binOp BinOp.eql 26 (Operand.tmp 71) (Operand.const (Value.int IntKind.i64 140)) 26, type := 4, pos := "law.go:47", after := #[{ on := 43, ground := Ground.data }, { on := 37, ground := Ground.guard }], guard := some (37, true) }) (v := .bool true) rfl (by kernel_rfl) (by kernel_rfl) (by kernel_rfl) (fun _ _ _ h => h) (Or.inl ⟨by rfl, ?_⟩) hHeld ?_
          · intro w hSw
            first
              | rfl
              | (go_simp; done)
          try simp only [Act.put, List.setIfInBounds_toArray, List.set_cons_zero, List.set_cons_succ]
          refine wpAnyH_take (i := 45) (oi := { dst := some 73, op := Op.pick (Operand.tmp 65) (Operand.tmp 72) (Operand.const (Value.bool false)), type := 4, pos := "law.go:47", after := #[{ on := 37, ground := Ground.data }, { on := 44, ground := Ground.data }], guard := none }) (v := .bool true) rfl (by kernel_rfl) (by kernel_rfl) (by kernel_rfl) (fun _ _ _ h => h) (Or.inl ⟨by rfl, ?_⟩) hHeld ?_
          · intro w hSw
            first
              | rfl
              | (go_simp; done)
          try simp only [Act.put, List.setIfInBounds_toArray, List.set_cons_zero, List.set_cons_succ]
          refine wpAnyH_take (i := 46) (oi := { dst := some 0, op := Op.assign (Operand.tmp 73), type := 4, pos := "law.go:47", after := #[{ on := 45, ground := Ground.data }, { on := 43, ground := Ground.chain }, { on := 0, ground := Ground.phase }, { on := 1, ground := Ground.phase }, { on := 2, ground := Ground.phase }, { on := 3, ground := Ground.phase }, { on := 4, ground := Ground.phase }, { on := 5, ground := Ground.phase }, { on := 6, ground := Ground.phase }, { on := 7, ground := Ground.phase }, { on := 8, ground := Ground.phase }, { on := 9, ground := Ground.phase }, { on := 10, ground := Ground.phase }, { on := 11, ground := Ground.phase }, { on := 12, ground := Ground.phase }, { on := 13, ground := Ground.phase }, { on := 14, ground := Ground.phase }, { on := 15, ground := Ground.phase }, { on := 16, ground := Ground.phase }, { on := 17, ground := Ground.phase }, { on := 18, ground := Ground.phase }, { on := 19, ground := Ground.phase }, { on := 20, ground := Ground.phase }, { on := 21, ground := Ground.phase }, { on := 22, ground := Ground.phase }, { on := 23, ground := Ground.phase }, { on := 24, ground := Ground.phase }, { on := 25, ground := Ground.phase }, { on := 26, ground := Ground.phase }, { on := 27, ground := Ground.phase }, { on := 28, ground := Ground.phase }, { on := 29, ground := Ground.phase }, { on := 30, ground := Ground.phase }, { on := 31, ground := Ground.phase }, { on := 32, ground := Ground.phase }, { on := 33, ground := Ground.phase }, { on := 34, ground := Ground.phase }, { on := 35, ground := Ground.phase }, { on := 36, ground := Ground.phase }, { on := 37, ground := Ground.phase }, { on := 38, ground := Ground.phase }, { on := 39, ground := Ground.phase }, { on := 40, ground := Ground.phase }, { on := 41, ground := Ground.phase }, { on := 42, ground := Ground.phase }, { on := 43, ground := Ground.phase }, { on := 44, ground := Ground.phase }, { on := 45, ground := Ground.phase }], guard := none }) (v := .bool true) rfl (by kernel_rfl) (by kernel_rfl) (by kernel_rfl) (fun _ _ _ h => h) (Or.inl ⟨by rfl, ?_⟩) hHeld ?_
          · intro w hSw
            first
              | rfl
              | (go_simp; done)
          try simp only [Act.put, List.setIfInBounds_toArray, List.set_cons_zero, List.set_cons_succ]
          refine wpAnyH_done (by kernel_rfl) ?_ _
          go_wp2_with fail
          go_ret
          exact ⟨by first | rfl | kernel_rfl, bcall (unhide HB6) k22⟩
      · go_simp
        refine Calls.mono (unhide KR3 w20 k20) ?_
        rintro e w21 ⟨rfl, b21⟩
        have k21 := bcall k20 b21
        go_wp2_with fail
        refine hK.out _ _ ?_ (fun hHeld => ?_)
        · exact KB.call hst k21
        clear hK K
        try simp only [Act.put, List.setIfInBounds_toArray, List.set_cons_zero, List.set_cons_succ]
        clear hHeld
        have hHeld := KB.call hst k21
        refine wpAnyH_ready (rs := [38]) (by kernel_rfl) (by simp) ?_
        refine AllReadyH.cons (o := { dst := some 66, op := Op.buildSlice 22 1 #[(0, Operand.const (Value.int IntKind.u8 100))], type := 22, pos := "law.go:47", after := #[{ on := 37, ground := Ground.guard }], guard := some (37, true) }) rfl (fun K hK => ?_) AllReadyH.nil
        go_simp
        refine hK.out _ _ ?_ (fun hHeld => ?_)
        · exact KB.call hst (bal k21 _)
        clear hK K
        try simp only [Act.put, List.setIfInBounds_toArray, List.set_cons_zero, List.set_cons_succ]
        refine wpAnyH_ready (rs := [39]) (by kernel_rfl) (by simp) ?_
        refine AllReadyH.cons (o := { dst := some 67, op := Op.convert 22 22 (Operand.tmp 66), type := 22, pos := "law.go:47", after := #[{ on := 38, ground := Ground.data }, { on := 37, ground := Ground.guard }], guard := some (37, true) }) rfl (fun K hK => ?_) AllReadyH.nil
        go_simp
        refine hK.out _ _ ?_ (fun hHeld => ?_)
        · exact KB.call hst (bal k21 _)
        clear hK K
        try simp only [Act.put, List.setIfInBounds_toArray, List.set_cons_zero, List.set_cons_succ]
        refine wpAnyH_ready (rs := [43]) (by kernel_rfl) (by simp) ?_
        refine AllReadyH.cons (o := { dst := some 71, op := Op.call { callee := Callee.value (Operand.func 34), args := #[Operand.tmp 67, Operand.const (Value.int IntKind.i64 2), Operand.const (Value.int IntKind.i64 3), Operand.tmp 68, Operand.tmp 70], argTypes := #[22, 3, 3, 54, 43] }, type := 26, pos := "law.go:47", after := #[{ on := 39, ground := Ground.data }, { on := 40, ground := Ground.data }, { on := 42, ground := Ground.data }, { on := 42, ground := Ground.chain }, { on := 37, ground := Ground.guard }], guard := some (37, true) }) rfl (fun K hK => ?_) AllReadyH.nil
        go_simp
        refine Calls.mono (unhide KPD (w21.alloc (.cells #[.int .u8 100] 5 (1, 2))) _ (unhide yl100 w21) (bal k21 _)) ?_
        rintro e w22 ⟨rfl, b22⟩
        have k22 := bcall (bal k21 _) b22
        go_wp2_with fail
        refine hK.out _ _ ?_ (fun hHeld => ?_)
        · exact KB.call hst k22
        clear hK K
        try simp only [Act.put, List.setIfInBounds_toArray, List.set_cons_zero, List.set_cons_succ]
        clear hHeld
        have hHeld := KB.call hst k22
        refine wpAnyH_take (i := 44) (oi := { dst := some 72, op := Op.binOp BinOp.eql 26 (Operand.tmp 71) (Operand.const (Value.int IntKind.i64 140)) 26, type := 4, pos := "law.go:47", after := #[{ on := 43, ground := Ground.data }, { on := 37, ground := Ground.guard }], guard := some (37, true) }) (v := .bool true) rfl (by kernel_rfl) (by kernel_rfl) (by kernel_rfl) (fun _ _ _ h => h) (Or.inl ⟨by rfl, ?_⟩) hHeld ?_
        · intro w hSw
          first
            | rfl
            | (go_simp; done)
        try simp only [Act.put, List.setIfInBounds_toArray, List.set_cons_zero, List.set_cons_succ]
        refine wpAnyH_take (i := 45) (oi := { dst := some 73, op := Op.pick (Operand.tmp 65) (Operand.tmp 72) (Operand.const (Value.bool false)), type := 4, pos := "law.go:47", after := #[{ on := 37, ground := Ground.data }, { on := 44, ground := Ground.data }], guard := none }) (v := .bool true) rfl (by kernel_rfl) (by kernel_rfl) (by kernel_rfl) (fun _ _ _ h => h) (Or.inl ⟨by rfl, ?_⟩) hHeld ?_
        · intro w hSw
          first
            | rfl
            | (go_simp; done)
        try simp only [Act.put, List.setIfInBounds_toArray, List.set_cons_zero, List.set_cons_succ]
        refine wpAnyH_take (i := 46) (oi := { dst := some 0, op := Op.assign (Operand.tmp 73), type := 4, pos := "law.go:47", after := #[{ on := 45, ground := Ground.data }, { on := 43, ground := Ground.chain }, { on := 0, ground := Ground.phase }, { on := 1, ground := Ground.phase }, { on := 2, ground := Ground.phase }, { on := 3, ground := Ground.phase }, { on := 4, ground := Ground.phase }, { on := 5, ground := Ground.phase }, { on := 6, ground := Ground.phase }, { on := 7, ground := Ground.phase }, { on := 8, ground := Ground.phase }, { on := 9, ground := Ground.phase }, { on := 10, ground := Ground.phase }, { on := 11, ground := Ground.phase }, { on := 12, ground := Ground.phase }, { on := 13, ground := Ground.phase }, { on := 14, ground := Ground.phase }, { on := 15, ground := Ground.phase }, { on := 16, ground := Ground.phase }, { on := 17, ground := Ground.phase }, { on := 18, ground := Ground.phase }, { on := 19, ground := Ground.phase }, { on := 20, ground := Ground.phase }, { on := 21, ground := Ground.phase }, { on := 22, ground := Ground.phase }, { on := 23, ground := Ground.phase }, { on := 24, ground := Ground.phase }, { on := 25, ground := Ground.phase }, { on := 26, ground := Ground.phase }, { on := 27, ground := Ground.phase }, { on := 28, ground := Ground.phase }, { on := 29, ground := Ground.phase }, { on := 30, ground := Ground.phase }, { on := 31, ground := Ground.phase }, { on := 32, ground := Ground.phase }, { on := 33, ground := Ground.phase }, { on := 34, ground := Ground.phase }, { on := 35, ground := Ground.phase }, { on := 36, ground := Ground.phase }, { on := 37, ground := Ground.phase }, { on := 38, ground := Ground.phase }, { on := 39, ground := Ground.phase }, { on := 40, ground := Ground.phase }, { on := 41, ground := Ground.phase }, { on := 42, ground := Ground.phase }, { on := 43, ground := Ground.phase }, { on := 44, ground := Ground.phase }, { on := 45, ground := Ground.phase }], guard := none }) (v := .bool true) rfl (by kernel_rfl) (by kernel_rfl) (by kernel_rfl) (fun _ _ _ h => h) (Or.inl ⟨by rfl, ?_⟩) hHeld ?_
        · intro w hSw
          first
            | rfl
            | (go_simp; done)
        try simp only [Act.put, List.setIfInBounds_toArray, List.set_cons_zero, List.set_cons_succ]
        refine wpAnyH_done (by kernel_rfl) ?_ _
        go_wp2_with fail
        go_ret
        exact ⟨by first | rfl | kernel_rfl, bcall (unhide HB6) k22⟩
    · go_simp
      refine Calls.mono (unhide KR3 (w18.alloc (.cells #[.int .u8 99] 5)) (bal k18 _)) ?_
      rintro e w19 ⟨rfl, b19⟩
      have k19 := bcall (bal k18 _) b19
      have h19 := hide ((b19.block w18.heap.size (by rw [size_alloc]; omega)).trans (heap_alloc_new w18 (.cells #[.int .u8 99] 5)))
      have cv19 := conv_late (unhide h19)
      go_wp2_with fail
      refine hK.out _ _ ?_ (fun hHeld => ?_)
      · exact KB.call hst k19
      clear hK K
      try simp only [Act.put, List.setIfInBounds_toArray, List.set_cons_zero, List.set_cons_succ]
      clear hHeld
      have hHeld := KB.call hst k19
      refine wpAnyH_ready (rs := [30]) (by kernel_rfl) (by simp) ?_
      refine AllReadyH.cons (o := { dst := some 58, op := Op.convert 22 22 (Operand.tmp 57), type := 22, pos := "law.go:47", after := #[{ on := 29, ground := Ground.data }, { on := 28, ground := Ground.guard }], guard := some (28, true) }) rfl (fun K hK => ?_) AllReadyH.nil
      go_simp
      refine hK.out _ _ ?_ (fun hHeld => ?_)
      · exact KB.call hst (bfreeze k19 k18.size)
      clear hK K
      try simp only [Act.put, List.setIfInBounds_toArray, List.set_cons_zero, List.set_cons_succ]
      clear cv19
      refine wpAnyH_ready (rs := [34]) (by kernel_rfl) (by simp) ?_
      refine AllReadyH.cons (o := { dst := some 62, op := Op.call { callee := Callee.value (Operand.func 34), args := #[Operand.tmp 58, Operand.const (Value.int IntKind.i64 2), Operand.const (Value.int IntKind.i64 3), Operand.tmp 59, Operand.tmp 61], argTypes := #[22, 3, 3, 54, 43] }, type := 26, pos := "law.go:47", after := #[{ on := 30, ground := Ground.data }, { on := 31, ground := Ground.data }, { on := 33, ground := Ground.data }, { on := 33, ground := Ground.chain }, { on := 28, ground := Ground.guard }], guard := some (28, true) }) rfl (fun K hK => ?_) AllReadyH.nil
      go_simp
      refine Calls.mono (unhide KPC (w19.freeze ⟨w18.heap.size, 1, none⟩ 1) _ (unhide yf99 _ _ (unhide h19)) (bfreeze k19 k18.size)) ?_
      rintro e w20 ⟨rfl, b20⟩
      have k20 := bcall (bfreeze k19 k18.size) b20
      go_wp2_with fail
      refine hK.out _ _ ?_ (fun hHeld => ?_)
      · exact KB.call hst k20
      clear hK K
      try simp only [Act.put, List.setIfInBounds_toArray, List.set_cons_zero, List.set_cons_succ]
      clear hHeld
      have hHeld := KB.call hst k20
      refine wpAnyH_take (i := 35) (oi := { dst := some 63, op := Op.binOp BinOp.eql 26 (Operand.tmp 62) (Operand.const (Value.int IntKind.i64 0)) 26, type := 4, pos := "law.go:47", after := #[{ on := 34, ground := Ground.data }, { on := 28, ground := Ground.guard }], guard := some (28, true) }) (v := .bool true) rfl (by kernel_rfl) (by kernel_rfl) (by kernel_rfl) (fun _ _ _ h => h) (Or.inl ⟨by rfl, ?_⟩) hHeld ?_
      · intro w hSw
        first
          | rfl
          | (go_simp; done)
      try simp only [Act.put, List.setIfInBounds_toArray, List.set_cons_zero, List.set_cons_succ]
      refine wpAnyH_take (i := 36) (oi := { dst := some 64, op := Op.pick (Operand.tmp 56) (Operand.tmp 63) (Operand.const (Value.bool false)), type := 4, pos := "law.go:47", after := #[{ on := 28, ground := Ground.data }, { on := 35, ground := Ground.data }], guard := none }) (v := .bool true) rfl (by kernel_rfl) (by kernel_rfl) (by kernel_rfl) (fun _ _ _ h => h) (Or.inl ⟨by rfl, ?_⟩) hHeld ?_
      · intro w hSw
        first
          | rfl
          | (go_simp; done)
      try simp only [Act.put, List.setIfInBounds_toArray, List.set_cons_zero, List.set_cons_succ]
      refine wpAnyH_take (i := 37) (oi := { dst := some 65, op := Op.move (Operand.tmp 64), type := 4, pos := "law.go:47", after := #[{ on := 36, ground := Ground.data }, { on := 34, ground := Ground.chain }], guard := none }) (v := .bool true) rfl (by kernel_rfl) (by kernel_rfl) (by kernel_rfl) (fun _ _ _ h => h) (Or.inl ⟨by rfl, ?_⟩) hHeld ?_
      · intro w hSw
        first
          | rfl
          | (go_simp; done)
      try simp only [Act.put, List.setIfInBounds_toArray, List.set_cons_zero, List.set_cons_succ]
      refine wpAnyH_take (i := 40) (oi := { dst := some 68, op := Op.move (Operand.tmp 3), type := 54, pos := "law.go:47", after := #[{ on := 37, ground := Ground.guard }], guard := some (37, true) }) (v := .slice pa 1 pc) rfl (by kernel_rfl) (by kernel_rfl) (by kernel_rfl) (fun _ _ _ h => h) (Or.inl ⟨by rfl, ?_⟩) hHeld ?_
      · intro w hSw
        first
          | rfl
          | (go_simp; done)
      try simp only [Act.put, List.setIfInBounds_toArray, List.set_cons_zero, List.set_cons_succ]
      refine wpAnyH_take (i := 41) (oi := { dst := some 69, op := Op.move (Operand.tmp 1), type := 38, pos := "law.go:47", after := #[{ on := 37, ground := Ground.guard }], guard := some (37, true) }) (v := .pointer (some ⟨g, 0, none⟩)) rfl (by kernel_rfl) (by kernel_rfl) (by kernel_rfl) (fun _ _ _ h => h) (Or.inl ⟨by rfl, ?_⟩) hHeld ?_
      · intro w hSw
        first
          | rfl
          | (go_simp; done)
      try simp only [Act.put, List.setIfInBounds_toArray, List.set_cons_zero, List.set_cons_succ]
      refine wpAnyH_ready (rs := [38, 42]) (by kernel_rfl) (by simp) ?_
      refine AllReadyH.cons (o := { dst := some 66, op := Op.buildSlice 22 1 #[(0, Operand.const (Value.int IntKind.u8 100))], type := 22, pos := "law.go:47", after := #[{ on := 37, ground := Ground.guard }], guard := some (37, true) }) rfl (fun K hK => ?_) (AllReadyH.cons (o := { dst := some 70, op := Op.call { callee := Callee.value (Operand.func 30), args := #[Operand.tmp 69, Operand.const (Value.int IntKind.i64 3)], argTypes := #[38, 3] }, type := 43, pos := "law.go:47", after := #[{ on := 41, ground := Ground.data }, { on := 37, ground := Ground.chain }, { on := 37, ground := Ground.guard }], guard := some (37, true) }) rfl (fun K hK => ?_) AllReadyH.nil)
      · go_simp
        refine hK.out _ _ ?_ (fun hHeld => ?_)
        · exact KB.call hst (bal k20 _)
        clear hK K
        try simp only [Act.put, List.setIfInBounds_toArray, List.set_cons_zero, List.set_cons_succ]
        refine wpAnyH_ready (rs := [39, 42]) (by kernel_rfl) (by simp) ?_
        refine AllReadyH.cons (o := { dst := some 67, op := Op.convert 22 22 (Operand.tmp 66), type := 22, pos := "law.go:47", after := #[{ on := 38, ground := Ground.data }, { on := 37, ground := Ground.guard }], guard := some (37, true) }) rfl (fun K hK => ?_) (AllReadyH.cons (o := { dst := some 70, op := Op.call { callee := Callee.value (Operand.func 30), args := #[Operand.tmp 69, Operand.const (Value.int IntKind.i64 3)], argTypes := #[38, 3] }, type := 43, pos := "law.go:47", after := #[{ on := 41, ground := Ground.data }, { on := 37, ground := Ground.chain }, { on := 37, ground := Ground.guard }], guard := some (37, true) }) rfl (fun K hK => ?_) AllReadyH.nil)
        · go_simp
          refine hK.out _ _ ?_ (fun hHeld => ?_)
          · exact KB.call hst (bal k20 _)
          clear hK K
          try simp only [Act.put, List.setIfInBounds_toArray, List.set_cons_zero, List.set_cons_succ]
          refine wpAnyH_ready (rs := [42]) (by kernel_rfl) (by simp) ?_
          refine AllReadyH.cons (o := { dst := some 70, op := Op.call { callee := Callee.value (Operand.func 30), args := #[Operand.tmp 69, Operand.const (Value.int IntKind.i64 3)], argTypes := #[38, 3] }, type := 43, pos := "law.go:47", after := #[{ on := 41, ground := Ground.data }, { on := 37, ground := Ground.chain }, { on := 37, ground := Ground.guard }], guard := some (37, true) }) rfl (fun K hK => ?_) AllReadyH.nil
          go_simp
          refine Calls.mono (unhide KR3 (w20.alloc (.cells #[.int .u8 100] 5 (1, 2))) (bal k20 _)) ?_
          rintro e w21 ⟨rfl, b21⟩
          have k21 := bcall (bal k20 _) b21
          have y21 := hide ((unhide yl100 w20).call b21)
          go_wp2_with fail
          refine hK.out _ _ ?_ (fun hHeld => ?_)
          · exact KB.call hst k21
          clear hK K
          try simp only [Act.put, List.setIfInBounds_toArray, List.set_cons_zero, List.set_cons_succ]
          clear hHeld
          have hHeld := KB.call hst k21
          refine wpAnyH_ready (rs := [43]) (by kernel_rfl) (by simp) ?_
          refine AllReadyH.cons (o := { dst := some 71, op := Op.call { callee := Callee.value (Operand.func 34), args := #[Operand.tmp 67, Operand.const (Value.int IntKind.i64 2), Operand.const (Value.int IntKind.i64 3), Operand.tmp 68, Operand.tmp 70], argTypes := #[22, 3, 3, 54, 43] }, type := 26, pos := "law.go:47", after := #[{ on := 39, ground := Ground.data }, { on := 40, ground := Ground.data }, { on := 42, ground := Ground.data }, { on := 42, ground := Ground.chain }, { on := 37, ground := Ground.guard }], guard := some (37, true) }) rfl (fun K hK => ?_) AllReadyH.nil
          go_simp
          refine Calls.mono (unhide KPD w21 _ (unhide y21) k21) ?_
          rintro e w22 ⟨rfl, b22⟩
          have k22 := bcall k21 b22
          go_wp2_with fail
          refine hK.out _ _ ?_ (fun hHeld => ?_)
          · exact KB.call hst k22
          clear hK K
          try simp only [Act.put, List.setIfInBounds_toArray, List.set_cons_zero, List.set_cons_succ]
          clear hHeld
          have hHeld := KB.call hst k22
          refine wpAnyH_take (i := 44) (oi := { dst := some 72, op := Op.binOp BinOp.eql 26 (Operand.tmp 71) (Operand.const (Value.int IntKind.i64 140)) 26, type := 4, pos := "law.go:47", after := #[{ on := 43, ground := Ground.data }, { on := 37, ground := Ground.guard }], guard := some (37, true) }) (v := .bool true) rfl (by kernel_rfl) (by kernel_rfl) (by kernel_rfl) (fun _ _ _ h => h) (Or.inl ⟨by rfl, ?_⟩) hHeld ?_
          · intro w hSw
            first
              | rfl
              | (go_simp; done)
          try simp only [Act.put, List.setIfInBounds_toArray, List.set_cons_zero, List.set_cons_succ]
          refine wpAnyH_take (i := 45) (oi := { dst := some 73, op := Op.pick (Operand.tmp 65) (Operand.tmp 72) (Operand.const (Value.bool false)), type := 4, pos := "law.go:47", after := #[{ on := 37, ground := Ground.data }, { on := 44, ground := Ground.data }], guard := none }) (v := .bool true) rfl (by kernel_rfl) (by kernel_rfl) (by kernel_rfl) (fun _ _ _ h => h) (Or.inl ⟨by rfl, ?_⟩) hHeld ?_
          · intro w hSw
            first
              | rfl
              | (go_simp; done)
          try simp only [Act.put, List.setIfInBounds_toArray, List.set_cons_zero, List.set_cons_succ]
          refine wpAnyH_take (i := 46) (oi := { dst := some 0, op := Op.assign (Operand.tmp 73), type := 4, pos := "law.go:47", after := #[{ on := 45, ground := Ground.data }, { on := 43, ground := Ground.chain }, { on := 0, ground := Ground.phase }, { on := 1, ground := Ground.phase }, { on := 2, ground := Ground.phase }, { on := 3, ground := Ground.phase }, { on := 4, ground := Ground.phase }, { on := 5, ground := Ground.phase }, { on := 6, ground := Ground.phase }, { on := 7, ground := Ground.phase }, { on := 8, ground := Ground.phase }, { on := 9, ground := Ground.phase }, { on := 10, ground := Ground.phase }, { on := 11, ground := Ground.phase }, { on := 12, ground := Ground.phase }, { on := 13, ground := Ground.phase }, { on := 14, ground := Ground.phase }, { on := 15, ground := Ground.phase }, { on := 16, ground := Ground.phase }, { on := 17, ground := Ground.phase }, { on := 18, ground := Ground.phase }, { on := 19, ground := Ground.phase }, { on := 20, ground := Ground.phase }, { on := 21, ground := Ground.phase }, { on := 22, ground := Ground.phase }, { on := 23, ground := Ground.phase }, { on := 24, ground := Ground.phase }, { on := 25, ground := Ground.phase }, { on := 26, ground := Ground.phase }, { on := 27, ground := Ground.phase }, { on := 28, ground := Ground.phase }, { on := 29, ground := Ground.phase }, { on := 30, ground := Ground.phase }, { on := 31, ground := Ground.phase }, { on := 32, ground := Ground.phase }, { on := 33, ground := Ground.phase }, { on := 34, ground := Ground.phase }, { on := 35, ground := Ground.phase }, { on := 36, ground := Ground.phase }, { on := 37, ground := Ground.phase }, { on := 38, ground := Ground.phase }, { on := 39, ground := Ground.phase }, { on := 40, ground := Ground.phase }, { on := 41, ground := Ground.phase }, { on := 42, ground := Ground.phase }, { on := 43, ground := Ground.phase }, { on := 44, ground := Ground.phase }, { on := 45, ground := Ground.phase }], guard := none }) (v := .bool true) rfl (by kernel_rfl) (by kernel_rfl) (by kernel_rfl) (fun _ _ _ h => h) (Or.inl ⟨by rfl, ?_⟩) hHeld ?_
          · intro w hSw
            first
              | rfl
              | (go_simp; done)
          try simp only [Act.put, List.setIfInBounds_toArray, List.set_cons_zero, List.set_cons_succ]
          refine wpAnyH_done (by kernel_rfl) ?_ _
          go_wp2_with fail
          go_ret
          exact ⟨by first | rfl | kernel_rfl, bcall (unhide HB6) k22⟩
        · go_simp
          refine Calls.mono (unhide KR3 (w20.alloc (.cells #[.int .u8 100] 5)) (bal k20 _)) ?_
          rintro e w21 ⟨rfl, b21⟩
          have k21 := bcall (bal k20 _) b21
          have h21 := hide ((b21.block w20.heap.size (by rw [size_alloc]; omega)).trans (heap_alloc_new w20 (.cells #[.int .u8 100] 5)))
          have cv21 := conv_late (unhide h21)
          go_wp2_with fail
          refine hK.out _ _ ?_ (fun hHeld => ?_)
          · exact KB.call hst k21
          clear hK K
          try simp only [Act.put, List.setIfInBounds_toArray, List.set_cons_zero, List.set_cons_succ]
          clear hHeld
          have hHeld := KB.call hst k21
          refine wpAnyH_ready (rs := [39]) (by kernel_rfl) (by simp) ?_
          refine AllReadyH.cons (o := { dst := some 67, op := Op.convert 22 22 (Operand.tmp 66), type := 22, pos := "law.go:47", after := #[{ on := 38, ground := Ground.data }, { on := 37, ground := Ground.guard }], guard := some (37, true) }) rfl (fun K hK => ?_) AllReadyH.nil
          go_simp
          refine hK.out _ _ ?_ (fun hHeld => ?_)
          · exact KB.call hst (bfreeze k21 k20.size)
          clear hK K
          try simp only [Act.put, List.setIfInBounds_toArray, List.set_cons_zero, List.set_cons_succ]
          clear cv21
          refine wpAnyH_ready (rs := [43]) (by kernel_rfl) (by simp) ?_
          refine AllReadyH.cons (o := { dst := some 71, op := Op.call { callee := Callee.value (Operand.func 34), args := #[Operand.tmp 67, Operand.const (Value.int IntKind.i64 2), Operand.const (Value.int IntKind.i64 3), Operand.tmp 68, Operand.tmp 70], argTypes := #[22, 3, 3, 54, 43] }, type := 26, pos := "law.go:47", after := #[{ on := 39, ground := Ground.data }, { on := 40, ground := Ground.data }, { on := 42, ground := Ground.data }, { on := 42, ground := Ground.chain }, { on := 37, ground := Ground.guard }], guard := some (37, true) }) rfl (fun K hK => ?_) AllReadyH.nil
          go_simp
          refine Calls.mono (unhide KPD (w21.freeze ⟨w20.heap.size, 1, none⟩ 1) _ (unhide yf100 _ _ (unhide h21)) (bfreeze k21 k20.size)) ?_
          rintro e w22 ⟨rfl, b22⟩
          have k22 := bcall (bfreeze k21 k20.size) b22
          go_wp2_with fail
          refine hK.out _ _ ?_ (fun hHeld => ?_)
          · exact KB.call hst k22
          clear hK K
          try simp only [Act.put, List.setIfInBounds_toArray, List.set_cons_zero, List.set_cons_succ]
          clear hHeld
          have hHeld := KB.call hst k22
          refine wpAnyH_take (i := 44) (oi := { dst := some 72, op := Op.binOp BinOp.eql 26 (Operand.tmp 71) (Operand.const (Value.int IntKind.i64 140)) 26, type := 4, pos := "law.go:47", after := #[{ on := 43, ground := Ground.data }, { on := 37, ground := Ground.guard }], guard := some (37, true) }) (v := .bool true) rfl (by kernel_rfl) (by kernel_rfl) (by kernel_rfl) (fun _ _ _ h => h) (Or.inl ⟨by rfl, ?_⟩) hHeld ?_
          · intro w hSw
            first
              | rfl
              | (go_simp; done)
          try simp only [Act.put, List.setIfInBounds_toArray, List.set_cons_zero, List.set_cons_succ]
          refine wpAnyH_take (i := 45) (oi := { dst := some 73, op := Op.pick (Operand.tmp 65) (Operand.tmp 72) (Operand.const (Value.bool false)), type := 4, pos := "law.go:47", after := #[{ on := 37, ground := Ground.data }, { on := 44, ground := Ground.data }], guard := none }) (v := .bool true) rfl (by kernel_rfl) (by kernel_rfl) (by kernel_rfl) (fun _ _ _ h => h) (Or.inl ⟨by rfl, ?_⟩) hHeld ?_
          · intro w hSw
            first
              | rfl
              | (go_simp; done)
          try simp only [Act.put, List.setIfInBounds_toArray, List.set_cons_zero, List.set_cons_succ]
          refine wpAnyH_take (i := 46) (oi := { dst := some 0, op := Op.assign (Operand.tmp 73), type := 4, pos := "law.go:47", after := #[{ on := 45, ground := Ground.data }, { on := 43, ground := Ground.chain }, { on := 0, ground := Ground.phase }, { on := 1, ground := Ground.phase }, { on := 2, ground := Ground.phase }, { on := 3, ground := Ground.phase }, { on := 4, ground := Ground.phase }, { on := 5, ground := Ground.phase }, { on := 6, ground := Ground.phase }, { on := 7, ground := Ground.phase }, { on := 8, ground := Ground.phase }, { on := 9, ground := Ground.phase }, { on := 10, ground := Ground.phase }, { on := 11, ground := Ground.phase }, { on := 12, ground := Ground.phase }, { on := 13, ground := Ground.phase }, { on := 14, ground := Ground.phase }, { on := 15, ground := Ground.phase }, { on := 16, ground := Ground.phase }, { on := 17, ground := Ground.phase }, { on := 18, ground := Ground.phase }, { on := 19, ground := Ground.phase }, { on := 20, ground := Ground.phase }, { on := 21, ground := Ground.phase }, { on := 22, ground := Ground.phase }, { on := 23, ground := Ground.phase }, { on := 24, ground := Ground.phase }, { on := 25, ground := Ground.phase }, { on := 26, ground := Ground.phase }, { on := 27, ground := Ground.phase }, { on := 28, ground := Ground.phase }, { on := 29, ground := Ground.phase }, { on := 30, ground := Ground.phase }, { on := 31, ground := Ground.phase }, { on := 32, ground := Ground.phase }, { on := 33, ground := Ground.phase }, { on := 34, ground := Ground.phase }, { on := 35, ground := Ground.phase }, { on := 36, ground := Ground.phase }, { on := 37, ground := Ground.phase }, { on := 38, ground := Ground.phase }, { on := 39, ground := Ground.phase }, { on := 40, ground := Ground.phase }, { on := 41, ground := Ground.phase }, { on := 42, ground := Ground.phase }, { on := 43, ground := Ground.phase }, { on := 44, ground := Ground.phase }, { on := 45, ground := Ground.phase }], guard := none }) (v := .bool true) rfl (by kernel_rfl) (by kernel_rfl) (by kernel_rfl) (fun _ _ _ h => h) (Or.inl ⟨by rfl, ?_⟩) hHeld ?_
          · intro w hSw
            first
              | rfl
              | (go_simp; done)
          try simp only [Act.put, List.setIfInBounds_toArray, List.set_cons_zero, List.set_cons_succ]
          refine wpAnyH_done (by kernel_rfl) ?_ _
          go_wp2_with fail
          go_ret
          exact ⟨by first | rfl | kernel_rfl, bcall (unhide HB6) k22⟩
      · go_simp
        refine Calls.mono (unhide KR3 w20 k20) ?_
        rintro e w21 ⟨rfl, b21⟩
        have k21 := bcall k20 b21
        go_wp2_with fail
        refine hK.out _ _ ?_ (fun hHeld => ?_)
        · exact KB.call hst k21
        clear hK K
        try simp only [Act.put, List.setIfInBounds_toArray, List.set_cons_zero, List.set_cons_succ]
        clear hHeld
        have hHeld := KB.call hst k21
        refine wpAnyH_ready (rs := [38]) (by kernel_rfl) (by simp) ?_
        refine AllReadyH.cons (o := { dst := some 66, op := Op.buildSlice 22 1 #[(0, Operand.const (Value.int IntKind.u8 100))], type := 22, pos := "law.go:47", after := #[{ on := 37, ground := Ground.guard }], guard := some (37, true) }) rfl (fun K hK => ?_) AllReadyH.nil
        go_simp
        refine hK.out _ _ ?_ (fun hHeld => ?_)
        · exact KB.call hst (bal k21 _)
        clear hK K
        try simp only [Act.put, List.setIfInBounds_toArray, List.set_cons_zero, List.set_cons_succ]
        refine wpAnyH_ready (rs := [39]) (by kernel_rfl) (by simp) ?_
        refine AllReadyH.cons (o := { dst := some 67, op := Op.convert 22 22 (Operand.tmp 66), type := 22, pos := "law.go:47", after := #[{ on := 38, ground := Ground.data }, { on := 37, ground := Ground.guard }], guard := some (37, true) }) rfl (fun K hK => ?_) AllReadyH.nil
        go_simp
        refine hK.out _ _ ?_ (fun hHeld => ?_)
        · exact KB.call hst (bal k21 _)
        clear hK K
        try simp only [Act.put, List.setIfInBounds_toArray, List.set_cons_zero, List.set_cons_succ]
        refine wpAnyH_ready (rs := [43]) (by kernel_rfl) (by simp) ?_
        refine AllReadyH.cons (o := { dst := some 71, op := Op.call { callee := Callee.value (Operand.func 34), args := #[Operand.tmp 67, Operand.const (Value.int IntKind.i64 2), Operand.const (Value.int IntKind.i64 3), Operand.tmp 68, Operand.tmp 70], argTypes := #[22, 3, 3, 54, 43] }, type := 26, pos := "law.go:47", after := #[{ on := 39, ground := Ground.data }, { on := 40, ground := Ground.data }, { on := 42, ground := Ground.data }, { on := 42, ground := Ground.chain }, { on := 37, ground := Ground.guard }], guard := some (37, true) }) rfl (fun K hK => ?_) AllReadyH.nil
        go_simp
        refine Calls.mono (unhide KPD (w21.alloc (.cells #[.int .u8 100] 5 (1, 2))) _ (unhide yl100 w21) (bal k21 _)) ?_
        rintro e w22 ⟨rfl, b22⟩
        have k22 := bcall (bal k21 _) b22
        go_wp2_with fail
        refine hK.out _ _ ?_ (fun hHeld => ?_)
        · exact KB.call hst k22
        clear hK K
        try simp only [Act.put, List.setIfInBounds_toArray, List.set_cons_zero, List.set_cons_succ]
        clear hHeld
        have hHeld := KB.call hst k22
        refine wpAnyH_take (i := 44) (oi := { dst := some 72, op := Op.binOp BinOp.eql 26 (Operand.tmp 71) (Operand.const (Value.int IntKind.i64 140)) 26, type := 4, pos := "law.go:47", after := #[{ on := 43, ground := Ground.data }, { on := 37, ground := Ground.guard }], guard := some (37, true) }) (v := .bool true) rfl (by kernel_rfl) (by kernel_rfl) (by kernel_rfl) (fun _ _ _ h => h) (Or.inl ⟨by rfl, ?_⟩) hHeld ?_
        · intro w hSw
          first
            | rfl
            | (go_simp; done)
        try simp only [Act.put, List.setIfInBounds_toArray, List.set_cons_zero, List.set_cons_succ]
        refine wpAnyH_take (i := 45) (oi := { dst := some 73, op := Op.pick (Operand.tmp 65) (Operand.tmp 72) (Operand.const (Value.bool false)), type := 4, pos := "law.go:47", after := #[{ on := 37, ground := Ground.data }, { on := 44, ground := Ground.data }], guard := none }) (v := .bool true) rfl (by kernel_rfl) (by kernel_rfl) (by kernel_rfl) (fun _ _ _ h => h) (Or.inl ⟨by rfl, ?_⟩) hHeld ?_
        · intro w hSw
          first
            | rfl
            | (go_simp; done)
        try simp only [Act.put, List.setIfInBounds_toArray, List.set_cons_zero, List.set_cons_succ]
        refine wpAnyH_take (i := 46) (oi := { dst := some 0, op := Op.assign (Operand.tmp 73), type := 4, pos := "law.go:47", after := #[{ on := 45, ground := Ground.data }, { on := 43, ground := Ground.chain }, { on := 0, ground := Ground.phase }, { on := 1, ground := Ground.phase }, { on := 2, ground := Ground.phase }, { on := 3, ground := Ground.phase }, { on := 4, ground := Ground.phase }, { on := 5, ground := Ground.phase }, { on := 6, ground := Ground.phase }, { on := 7, ground := Ground.phase }, { on := 8, ground := Ground.phase }, { on := 9, ground := Ground.phase }, { on := 10, ground := Ground.phase }, { on := 11, ground := Ground.phase }, { on := 12, ground := Ground.phase }, { on := 13, ground := Ground.phase }, { on := 14, ground := Ground.phase }, { on := 15, ground := Ground.phase }, { on := 16, ground := Ground.phase }, { on := 17, ground := Ground.phase }, { on := 18, ground := Ground.phase }, { on := 19, ground := Ground.phase }, { on := 20, ground := Ground.phase }, { on := 21, ground := Ground.phase }, { on := 22, ground := Ground.phase }, { on := 23, ground := Ground.phase }, { on := 24, ground := Ground.phase }, { on := 25, ground := Ground.phase }, { on := 26, ground := Ground.phase }, { on := 27, ground := Ground.phase }, { on := 28, ground := Ground.phase }, { on := 29, ground := Ground.phase }, { on := 30, ground := Ground.phase }, { on := 31, ground := Ground.phase }, { on := 32, ground := Ground.phase }, { on := 33, ground := Ground.phase }, { on := 34, ground := Ground.phase }, { on := 35, ground := Ground.phase }, { on := 36, ground := Ground.phase }, { on := 37, ground := Ground.phase }, { on := 38, ground := Ground.phase }, { on := 39, ground := Ground.phase }, { on := 40, ground := Ground.phase }, { on := 41, ground := Ground.phase }, { on := 42, ground := Ground.phase }, { on := 43, ground := Ground.phase }, { on := 44, ground := Ground.phase }, { on := 45, ground := Ground.phase }], guard := none }) (v := .bool true) rfl (by kernel_rfl) (by kernel_rfl) (by kernel_rfl) (fun _ _ _ h => h) (Or.inl ⟨by rfl, ?_⟩) hHeld ?_
        · intro w hSw
          first
            | rfl
            | (go_simp; done)
        try simp only [Act.put, List.setIfInBounds_toArray, List.set_cons_zero, List.set_cons_succ]
        refine wpAnyH_done (by kernel_rfl) ?_ _
        go_wp2_with fail
        go_ret
        exact ⟨by first | rfl | kernel_rfl, bcall (unhide HB6) k22⟩
  · go_simp
    refine Calls.mono (unhide KR3 w18 k18) ?_
    rintro e w19 ⟨rfl, b19⟩
    have k19 := bcall k18 b19
    go_wp2_with fail
    refine hK.out _ _ ?_ (fun hHeld => ?_)
    · exact KB.call hst k19
    clear hK K
    try simp only [Act.put, List.setIfInBounds_toArray, List.set_cons_zero, List.set_cons_succ]
    clear hHeld
    have hHeld := KB.call hst k19
    refine wpAnyH_ready (rs := [29]) (by kernel_rfl) (by simp) ?_
    refine AllReadyH.cons (o := { dst := some 57, op := Op.buildSlice 22 1 #[(0, Operand.const (Value.int IntKind.u8 99))], type := 22, pos := "law.go:47", after := #[{ on := 28, ground := Ground.guard }], guard := some (28, true) }) rfl (fun K hK => ?_) AllReadyH.nil
    go_simp
    refine hK.out _ _ ?_ (fun hHeld => ?_)
    · exact KB.call hst (bal k19 _)
    clear hK K
    try simp only [Act.put, List.setIfInBounds_toArray, List.set_cons_zero, List.set_cons_succ]
    refine wpAnyH_ready (rs := [30]) (by kernel_rfl) (by simp) ?_
    refine AllReadyH.cons (o := { dst := some 58, op := Op.convert 22 22 (Operand.tmp 57), type := 22, pos := "law.go:47", after := #[{ on := 29, ground := Ground.data }, { on := 28, ground := Ground.guard }], guard := some (28, true) }) rfl (fun K hK => ?_) AllReadyH.nil
    go_simp
    refine hK.out _ _ ?_ (fun hHeld => ?_)
    · exact KB.call hst (bal k19 _)
    clear hK K
    try simp only [Act.put, List.setIfInBounds_toArray, List.set_cons_zero, List.set_cons_succ]
    refine wpAnyH_ready (rs := [34]) (by kernel_rfl) (by simp) ?_
    refine AllReadyH.cons (o := { dst := some 62, op := Op.call { callee := Callee.value (Operand.func 34), args := #[Operand.tmp 58, Operand.const (Value.int IntKind.i64 2), Operand.const (Value.int IntKind.i64 3), Operand.tmp 59, Operand.tmp 61], argTypes := #[22, 3, 3, 54, 43] }, type := 26, pos := "law.go:47", after := #[{ on := 30, ground := Ground.data }, { on := 31, ground := Ground.data }, { on := 33, ground := Ground.data }, { on := 33, ground := Ground.chain }, { on := 28, ground := Ground.guard }], guard := some (28, true) }) rfl (fun K hK => ?_) AllReadyH.nil
    go_simp
    refine Calls.mono (unhide KPC (w19.alloc (.cells #[.int .u8 99] 5 (1, 2))) _ (unhide yl99 w19) (bal k19 _)) ?_
    rintro e w20 ⟨rfl, b20⟩
    have k20 := bcall (bal k19 _) b20
    go_wp2_with fail
    refine hK.out _ _ ?_ (fun hHeld => ?_)
    · exact KB.call hst k20
    clear hK K
    try simp only [Act.put, List.setIfInBounds_toArray, List.set_cons_zero, List.set_cons_succ]
    clear hHeld
    have hHeld := KB.call hst k20
    refine wpAnyH_take (i := 35) (oi := { dst := some 63, op := Op.binOp BinOp.eql 26 (Operand.tmp 62) (Operand.const (Value.int IntKind.i64 0)) 26, type := 4, pos := "law.go:47", after := #[{ on := 34, ground := Ground.data }, { on := 28, ground := Ground.guard }], guard := some (28, true) }) (v := .bool true) rfl (by kernel_rfl) (by kernel_rfl) (by kernel_rfl) (fun _ _ _ h => h) (Or.inl ⟨by rfl, ?_⟩) hHeld ?_
    · intro w hSw
      first
        | rfl
        | (go_simp; done)
    try simp only [Act.put, List.setIfInBounds_toArray, List.set_cons_zero, List.set_cons_succ]
    refine wpAnyH_take (i := 36) (oi := { dst := some 64, op := Op.pick (Operand.tmp 56) (Operand.tmp 63) (Operand.const (Value.bool false)), type := 4, pos := "law.go:47", after := #[{ on := 28, ground := Ground.data }, { on := 35, ground := Ground.data }], guard := none }) (v := .bool true) rfl (by kernel_rfl) (by kernel_rfl) (by kernel_rfl) (fun _ _ _ h => h) (Or.inl ⟨by rfl, ?_⟩) hHeld ?_
    · intro w hSw
      first
        | rfl
        | (go_simp; done)
    try simp only [Act.put, List.setIfInBounds_toArray, List.set_cons_zero, List.set_cons_succ]
    refine wpAnyH_take (i := 37) (oi := { dst := some 65, op := Op.move (Operand.tmp 64), type := 4, pos := "law.go:47", after := #[{ on := 36, ground := Ground.data }, { on := 34, ground := Ground.chain }], guard := none }) (v := .bool true) rfl (by kernel_rfl) (by kernel_rfl) (by kernel_rfl) (fun _ _ _ h => h) (Or.inl ⟨by rfl, ?_⟩) hHeld ?_
    · intro w hSw
      first
        | rfl
        | (go_simp; done)
    try simp only [Act.put, List.setIfInBounds_toArray, List.set_cons_zero, List.set_cons_succ]
    refine wpAnyH_take (i := 40) (oi := { dst := some 68, op := Op.move (Operand.tmp 3), type := 54, pos := "law.go:47", after := #[{ on := 37, ground := Ground.guard }], guard := some (37, true) }) (v := .slice pa 1 pc) rfl (by kernel_rfl) (by kernel_rfl) (by kernel_rfl) (fun _ _ _ h => h) (Or.inl ⟨by rfl, ?_⟩) hHeld ?_
    · intro w hSw
      first
        | rfl
        | (go_simp; done)
    try simp only [Act.put, List.setIfInBounds_toArray, List.set_cons_zero, List.set_cons_succ]
    refine wpAnyH_take (i := 41) (oi := { dst := some 69, op := Op.move (Operand.tmp 1), type := 38, pos := "law.go:47", after := #[{ on := 37, ground := Ground.guard }], guard := some (37, true) }) (v := .pointer (some ⟨g, 0, none⟩)) rfl (by kernel_rfl) (by kernel_rfl) (by kernel_rfl) (fun _ _ _ h => h) (Or.inl ⟨by rfl, ?_⟩) hHeld ?_
    · intro w hSw
      first
        | rfl
        | (go_simp; done)
    try simp only [Act.put, List.setIfInBounds_toArray, List.set_cons_zero, List.set_cons_succ]
    refine wpAnyH_ready (rs := [38, 42]) (by kernel_rfl) (by simp) ?_
    refine AllReadyH.cons (o := { dst := some 66, op := Op.buildSlice 22 1 #[(0, Operand.const (Value.int IntKind.u8 100))], type := 22, pos := "law.go:47", after := #[{ on := 37, ground := Ground.guard }], guard := some (37, true) }) rfl (fun K hK => ?_) (AllReadyH.cons (o := { dst := some 70, op := Op.call { callee := Callee.value (Operand.func 30), args := #[Operand.tmp 69, Operand.const (Value.int IntKind.i64 3)], argTypes := #[38, 3] }, type := 43, pos := "law.go:47", after := #[{ on := 41, ground := Ground.data }, { on := 37, ground := Ground.chain }, { on := 37, ground := Ground.guard }], guard := some (37, true) }) rfl (fun K hK => ?_) AllReadyH.nil)
    · go_simp
      refine hK.out _ _ ?_ (fun hHeld => ?_)
      · exact KB.call hst (bal k20 _)
      clear hK K
      try simp only [Act.put, List.setIfInBounds_toArray, List.set_cons_zero, List.set_cons_succ]
      refine wpAnyH_ready (rs := [39, 42]) (by kernel_rfl) (by simp) ?_
      refine AllReadyH.cons (o := { dst := some 67, op := Op.convert 22 22 (Operand.tmp 66), type := 22, pos := "law.go:47", after := #[{ on := 38, ground := Ground.data }, { on := 37, ground := Ground.guard }], guard := some (37, true) }) rfl (fun K hK => ?_) (AllReadyH.cons (o := { dst := some 70, op := Op.call { callee := Callee.value (Operand.func 30), args := #[Operand.tmp 69, Operand.const (Value.int IntKind.i64 3)], argTypes := #[38, 3] }, type := 43, pos := "law.go:47", after := #[{ on := 41, ground := Ground.data }, { on := 37, ground := Ground.chain }, { on := 37, ground := Ground.guard }], guard := some (37, true) }) rfl (fun K hK => ?_) AllReadyH.nil)
      · go_simp
        refine hK.out _ _ ?_ (fun hHeld => ?_)
        · exact KB.call hst (bal k20 _)
        clear hK K
        try simp only [Act.put, List.setIfInBounds_toArray, List.set_cons_zero, List.set_cons_succ]
        refine wpAnyH_ready (rs := [42]) (by kernel_rfl) (by simp) ?_
        refine AllReadyH.cons (o := { dst := some 70, op := Op.call { callee := Callee.value (Operand.func 30), args := #[Operand.tmp 69, Operand.const (Value.int IntKind.i64 3)], argTypes := #[38, 3] }, type := 43, pos := "law.go:47", after := #[{ on := 41, ground := Ground.data }, { on := 37, ground := Ground.chain }, { on := 37, ground := Ground.guard }], guard := some (37, true) }) rfl (fun K hK => ?_) AllReadyH.nil
        go_simp
        refine Calls.mono (unhide KR3 (w20.alloc (.cells #[.int .u8 100] 5 (1, 2))) (bal k20 _)) ?_
        rintro e w21 ⟨rfl, b21⟩
        have k21 := bcall (bal k20 _) b21
        have y21 := hide ((unhide yl100 w20).call b21)
        go_wp2_with fail
        refine hK.out _ _ ?_ (fun hHeld => ?_)
        · exact KB.call hst k21
        clear hK K
        try simp only [Act.put, List.setIfInBounds_toArray, List.set_cons_zero, List.set_cons_succ]
        clear hHeld
        have hHeld := KB.call hst k21
        refine wpAnyH_ready (rs := [43]) (by kernel_rfl) (by simp) ?_
        refine AllReadyH.cons (o := { dst := some 71, op := Op.call { callee := Callee.value (Operand.func 34), args := #[Operand.tmp 67, Operand.const (Value.int IntKind.i64 2), Operand.const (Value.int IntKind.i64 3), Operand.tmp 68, Operand.tmp 70], argTypes := #[22, 3, 3, 54, 43] }, type := 26, pos := "law.go:47", after := #[{ on := 39, ground := Ground.data }, { on := 40, ground := Ground.data }, { on := 42, ground := Ground.data }, { on := 42, ground := Ground.chain }, { on := 37, ground := Ground.guard }], guard := some (37, true) }) rfl (fun K hK => ?_) AllReadyH.nil
        go_simp
        refine Calls.mono (unhide KPD w21 _ (unhide y21) k21) ?_
        rintro e w22 ⟨rfl, b22⟩
        have k22 := bcall k21 b22
        go_wp2_with fail
        refine hK.out _ _ ?_ (fun hHeld => ?_)
        · exact KB.call hst k22
        clear hK K
        try simp only [Act.put, List.setIfInBounds_toArray, List.set_cons_zero, List.set_cons_succ]
        clear hHeld
        have hHeld := KB.call hst k22
        refine wpAnyH_take (i := 44) (oi := { dst := some 72, op := Op.binOp BinOp.eql 26 (Operand.tmp 71) (Operand.const (Value.int IntKind.i64 140)) 26, type := 4, pos := "law.go:47", after := #[{ on := 43, ground := Ground.data }, { on := 37, ground := Ground.guard }], guard := some (37, true) }) (v := .bool true) rfl (by kernel_rfl) (by kernel_rfl) (by kernel_rfl) (fun _ _ _ h => h) (Or.inl ⟨by rfl, ?_⟩) hHeld ?_
        · intro w hSw
          first
            | rfl
            | (go_simp; done)
        try simp only [Act.put, List.setIfInBounds_toArray, List.set_cons_zero, List.set_cons_succ]
        refine wpAnyH_take (i := 45) (oi := { dst := some 73, op := Op.pick (Operand.tmp 65) (Operand.tmp 72) (Operand.const (Value.bool false)), type := 4, pos := "law.go:47", after := #[{ on := 37, ground := Ground.data }, { on := 44, ground := Ground.data }], guard := none }) (v := .bool true) rfl (by kernel_rfl) (by kernel_rfl) (by kernel_rfl) (fun _ _ _ h => h) (Or.inl ⟨by rfl, ?_⟩) hHeld ?_
        · intro w hSw
          first
            | rfl
            | (go_simp; done)
        try simp only [Act.put, List.setIfInBounds_toArray, List.set_cons_zero, List.set_cons_succ]
        refine wpAnyH_take (i := 46) (oi := { dst := some 0, op := Op.assign (Operand.tmp 73), type := 4, pos := "law.go:47", after := #[{ on := 45, ground := Ground.data }, { on := 43, ground := Ground.chain }, { on := 0, ground := Ground.phase }, { on := 1, ground := Ground.phase }, { on := 2, ground := Ground.phase }, { on := 3, ground := Ground.phase }, { on := 4, ground := Ground.phase }, { on := 5, ground := Ground.phase }, { on := 6, ground := Ground.phase }, { on := 7, ground := Ground.phase }, { on := 8, ground := Ground.phase }, { on := 9, ground := Ground.phase }, { on := 10, ground := Ground.phase }, { on := 11, ground := Ground.phase }, { on := 12, ground := Ground.phase }, { on := 13, ground := Ground.phase }, { on := 14, ground := Ground.phase }, { on := 15, ground := Ground.phase }, { on := 16, ground := Ground.phase }, { on := 17, ground := Ground.phase }, { on := 18, ground := Ground.phase }, { on := 19, ground := Ground.phase }, { on := 20, ground := Ground.phase }, { on := 21, ground := Ground.phase }, { on := 22, ground := Ground.phase }, { on := 23, ground := Ground.phase }, { on := 24, ground := Ground.phase }, { on := 25, ground := Ground.phase }, { on := 26, ground := Ground.phase }, { on := 27, ground := Ground.phase }, { on := 28, ground := Ground.phase }, { on := 29, ground := Ground.phase }, { on := 30, ground := Ground.phase }, { on := 31, ground := Ground.phase }, { on := 32, ground := Ground.phase }, { on := 33, ground := Ground.phase }, { on := 34, ground := Ground.phase }, { on := 35, ground := Ground.phase }, { on := 36, ground := Ground.phase }, { on := 37, ground := Ground.phase }, { on := 38, ground := Ground.phase }, { on := 39, ground := Ground.phase }, { on := 40, ground := Ground.phase }, { on := 41, ground := Ground.phase }, { on := 42, ground := Ground.phase }, { on := 43, ground := Ground.phase }, { on := 44, ground := Ground.phase }, { on := 45, ground := Ground.phase }], guard := none }) (v := .bool true) rfl (by kernel_rfl) (by kernel_rfl) (by kernel_rfl) (fun _ _ _ h => h) (Or.inl ⟨by rfl, ?_⟩) hHeld ?_
        · intro w hSw
          first
            | rfl
            | (go_simp; done)
        try simp only [Act.put, List.setIfInBounds_toArray, List.set_cons_zero, List.set_cons_succ]
        refine wpAnyH_done (by kernel_rfl) ?_ _
        go_wp2_with fail
        go_ret
        exact ⟨by first | rfl | kernel_rfl, bcall (unhide HB6) k22⟩
      · go_simp
        refine Calls.mono (unhide KR3 (w20.alloc (.cells #[.int .u8 100] 5)) (bal k20 _)) ?_
        rintro e w21 ⟨rfl, b21⟩
        have k21 := bcall (bal k20 _) b21
        have h21 := hide ((b21.block w20.heap.size (by rw [size_alloc]; omega)).trans (heap_alloc_new w20 (.cells #[.int .u8 100] 5)))
        have cv21 := conv_late (unhide h21)
        go_wp2_with fail
        refine hK.out _ _ ?_ (fun hHeld => ?_)
        · exact KB.call hst k21
        clear hK K
        try simp only [Act.put, List.setIfInBounds_toArray, List.set_cons_zero, List.set_cons_succ]
        clear hHeld
        have hHeld := KB.call hst k21
        refine wpAnyH_ready (rs := [39]) (by kernel_rfl) (by simp) ?_
        refine AllReadyH.cons (o := { dst := some 67, op := Op.convert 22 22 (Operand.tmp 66), type := 22, pos := "law.go:47", after := #[{ on := 38, ground := Ground.data }, { on := 37, ground := Ground.guard }], guard := some (37, true) }) rfl (fun K hK => ?_) AllReadyH.nil
        go_simp
        refine hK.out _ _ ?_ (fun hHeld => ?_)
        · exact KB.call hst (bfreeze k21 k20.size)
        clear hK K
        try simp only [Act.put, List.setIfInBounds_toArray, List.set_cons_zero, List.set_cons_succ]
        clear cv21
        refine wpAnyH_ready (rs := [43]) (by kernel_rfl) (by simp) ?_
        refine AllReadyH.cons (o := { dst := some 71, op := Op.call { callee := Callee.value (Operand.func 34), args := #[Operand.tmp 67, Operand.const (Value.int IntKind.i64 2), Operand.const (Value.int IntKind.i64 3), Operand.tmp 68, Operand.tmp 70], argTypes := #[22, 3, 3, 54, 43] }, type := 26, pos := "law.go:47", after := #[{ on := 39, ground := Ground.data }, { on := 40, ground := Ground.data }, { on := 42, ground := Ground.data }, { on := 42, ground := Ground.chain }, { on := 37, ground := Ground.guard }], guard := some (37, true) }) rfl (fun K hK => ?_) AllReadyH.nil
        go_simp
        refine Calls.mono (unhide KPD (w21.freeze ⟨w20.heap.size, 1, none⟩ 1) _ (unhide yf100 _ _ (unhide h21)) (bfreeze k21 k20.size)) ?_
        rintro e w22 ⟨rfl, b22⟩
        have k22 := bcall (bfreeze k21 k20.size) b22
        go_wp2_with fail
        refine hK.out _ _ ?_ (fun hHeld => ?_)
        · exact KB.call hst k22
        clear hK K
        try simp only [Act.put, List.setIfInBounds_toArray, List.set_cons_zero, List.set_cons_succ]
        clear hHeld
        have hHeld := KB.call hst k22
        refine wpAnyH_take (i := 44) (oi := { dst := some 72, op := Op.binOp BinOp.eql 26 (Operand.tmp 71) (Operand.const (Value.int IntKind.i64 140)) 26, type := 4, pos := "law.go:47", after := #[{ on := 43, ground := Ground.data }, { on := 37, ground := Ground.guard }], guard := some (37, true) }) (v := .bool true) rfl (by kernel_rfl) (by kernel_rfl) (by kernel_rfl) (fun _ _ _ h => h) (Or.inl ⟨by rfl, ?_⟩) hHeld ?_
        · intro w hSw
          first
            | rfl
            | (go_simp; done)
        try simp only [Act.put, List.setIfInBounds_toArray, List.set_cons_zero, List.set_cons_succ]
        refine wpAnyH_take (i := 45) (oi := { dst := some 73, op := Op.pick (Operand.tmp 65) (Operand.tmp 72) (Operand.const (Value.bool false)), type := 4, pos := "law.go:47", after := #[{ on := 37, ground := Ground.data }, { on := 44, ground := Ground.data }], guard := none }) (v := .bool true) rfl (by kernel_rfl) (by kernel_rfl) (by kernel_rfl) (fun _ _ _ h => h) (Or.inl ⟨by rfl, ?_⟩) hHeld ?_
        · intro w hSw
          first
            | rfl
            | (go_simp; done)
        try simp only [Act.put, List.setIfInBounds_toArray, List.set_cons_zero, List.set_cons_succ]
        refine wpAnyH_take (i := 46) (oi := { dst := some 0, op := Op.assign (Operand.tmp 73), type := 4, pos := "law.go:47", after := #[{ on := 45, ground := Ground.data }, { on := 43, ground := Ground.chain }, { on := 0, ground := Ground.phase }, { on := 1, ground := Ground.phase }, { on := 2, ground := Ground.phase }, { on := 3, ground := Ground.phase }, { on := 4, ground := Ground.phase }, { on := 5, ground := Ground.phase }, { on := 6, ground := Ground.phase }, { on := 7, ground := Ground.phase }, { on := 8, ground := Ground.phase }, { on := 9, ground := Ground.phase }, { on := 10, ground := Ground.phase }, { on := 11, ground := Ground.phase }, { on := 12, ground := Ground.phase }, { on := 13, ground := Ground.phase }, { on := 14, ground := Ground.phase }, { on := 15, ground := Ground.phase }, { on := 16, ground := Ground.phase }, { on := 17, ground := Ground.phase }, { on := 18, ground := Ground.phase }, { on := 19, ground := Ground.phase }, { on := 20, ground := Ground.phase }, { on := 21, ground := Ground.phase }, { on := 22, ground := Ground.phase }, { on := 23, ground := Ground.phase }, { on := 24, ground := Ground.phase }, { on := 25, ground := Ground.phase }, { on := 26, ground := Ground.phase }, { on := 27, ground := Ground.phase }, { on := 28, ground := Ground.phase }, { on := 29, ground := Ground.phase }, { on := 30, ground := Ground.phase }, { on := 31, ground := Ground.phase }, { on := 32, ground := Ground.phase }, { on := 33, ground := Ground.phase }, { on := 34, ground := Ground.phase }, { on := 35, ground := Ground.phase }, { on := 36, ground := Ground.phase }, { on := 37, ground := Ground.phase }, { on := 38, ground := Ground.phase }, { on := 39, ground := Ground.phase }, { on := 40, ground := Ground.phase }, { on := 41, ground := Ground.phase }, { on := 42, ground := Ground.phase }, { on := 43, ground := Ground.phase }, { on := 44, ground := Ground.phase }, { on := 45, ground := Ground.phase }], guard := none }) (v := .bool true) rfl (by kernel_rfl) (by kernel_rfl) (by kernel_rfl) (fun _ _ _ h => h) (Or.inl ⟨by rfl, ?_⟩) hHeld ?_
        · intro w hSw
          first
            | rfl
            | (go_simp; done)
        try simp only [Act.put, List.setIfInBounds_toArray, List.set_cons_zero, List.set_cons_succ]
        refine wpAnyH_done (by kernel_rfl) ?_ _
        go_wp2_with fail
        go_ret
        exact ⟨by first | rfl | kernel_rfl, bcall (unhide HB6) k22⟩
    · go_simp
      refine Calls.mono (unhide KR3 w20 k20) ?_
      rintro e w21 ⟨rfl, b21⟩
      have k21 := bcall k20 b21
      go_wp2_with fail
      refine hK.out _ _ ?_ (fun hHeld => ?_)
      · exact KB.call hst k21
      clear hK K
      try simp only [Act.put, List.setIfInBounds_toArray, List.set_cons_zero, List.set_cons_succ]
      clear hHeld
      have hHeld := KB.call hst k21
      refine wpAnyH_ready (rs := [38]) (by kernel_rfl) (by simp) ?_
      refine AllReadyH.cons (o := { dst := some 66, op := Op.buildSlice 22 1 #[(0, Operand.const (Value.int IntKind.u8 100))], type := 22, pos := "law.go:47", after := #[{ on := 37, ground := Ground.guard }], guard := some (37, true) }) rfl (fun K hK => ?_) AllReadyH.nil
      go_simp
      refine hK.out _ _ ?_ (fun hHeld => ?_)
      · exact KB.call hst (bal k21 _)
      clear hK K
      try simp only [Act.put, List.setIfInBounds_toArray, List.set_cons_zero, List.set_cons_succ]
      refine wpAnyH_ready (rs := [39]) (by kernel_rfl) (by simp) ?_
      refine AllReadyH.cons (o := { dst := some 67, op := Op.convert 22 22 (Operand.tmp 66), type := 22, pos := "law.go:47", after := #[{ on := 38, ground := Ground.data }, { on := 37, ground := Ground.guard }], guard := some (37, true) }) rfl (fun K hK => ?_) AllReadyH.nil
      go_simp
      refine hK.out _ _ ?_ (fun hHeld => ?_)
      · exact KB.call hst (bal k21 _)
      clear hK K
      try simp only [Act.put, List.setIfInBounds_toArray, List.set_cons_zero, List.set_cons_succ]
      refine wpAnyH_ready (rs := [43]) (by kernel_rfl) (by simp) ?_
      refine AllReadyH.cons (o := { dst := some 71, op := Op.call { callee := Callee.value (Operand.func 34), args := #[Operand.tmp 67, Operand.const (Value.int IntKind.i64 2), Operand.const (Value.int IntKind.i64 3), Operand.tmp 68, Operand.tmp 70], argTypes := #[22, 3, 3, 54, 43] }, type := 26, pos := "law.go:47", after := #[{ on := 39, ground := Ground.data }, { on := 40, ground := Ground.data }, { on := 42, ground := Ground.data }, { on := 42, ground := Ground.chain }, { on := 37, ground := Ground.guard }], guard := some (37, true) }) rfl (fun K hK => ?_) AllReadyH.nil
      go_simp
      refine Calls.mono (unhide KPD (w21.alloc (.cells #[.int .u8 100] 5 (1, 2))) _ (unhide yl100 w21) (bal k21 _)) ?_
      rintro e w22 ⟨rfl, b22⟩
      have k22 := bcall (bal k21 _) b22
      go_wp2_with fail
      refine hK.out _ _ ?_ (fun hHeld => ?_)
      · exact KB.call hst k22
      clear hK K
      try simp only [Act.put, List.setIfInBounds_toArray, List.set_cons_zero, List.set_cons_succ]
      clear hHeld
      have hHeld := KB.call hst k22
      refine wpAnyH_take (i := 44) (oi := { dst := some 72, op := Op.binOp BinOp.eql 26 (Operand.tmp 71) (Operand.const (Value.int IntKind.i64 140)) 26, type := 4, pos := "law.go:47", after := #[{ on := 43, ground := Ground.data }, { on := 37, ground := Ground.guard }], guard := some (37, true) }) (v := .bool true) rfl (by kernel_rfl) (by kernel_rfl) (by kernel_rfl) (fun _ _ _ h => h) (Or.inl ⟨by rfl, ?_⟩) hHeld ?_
      · intro w hSw
        first
          | rfl
          | (go_simp; done)
      try simp only [Act.put, List.setIfInBounds_toArray, List.set_cons_zero, List.set_cons_succ]
      refine wpAnyH_take (i := 45) (oi := { dst := some 73, op := Op.pick (Operand.tmp 65) (Operand.tmp 72) (Operand.const (Value.bool false)), type := 4, pos := "law.go:47", after := #[{ on := 37, ground := Ground.data }, { on := 44, ground := Ground.data }], guard := none }) (v := .bool true) rfl (by kernel_rfl) (by kernel_rfl) (by kernel_rfl) (fun _ _ _ h => h) (Or.inl ⟨by rfl, ?_⟩) hHeld ?_
      · intro w hSw
        first
          | rfl
          | (go_simp; done)
      try simp only [Act.put, List.setIfInBounds_toArray, List.set_cons_zero, List.set_cons_succ]
      refine wpAnyH_take (i := 46) (oi := { dst := some 0, op := Op.assign (Operand.tmp 73), type := 4, pos := "law.go:47", after := #[{ on := 45, ground := Ground.data }, { on := 43, ground := Ground.chain }, { on := 0, ground := Ground.phase }, { on := 1, ground := Ground.phase }, { on := 2, ground := Ground.phase }, { on := 3, ground := Ground.phase }, { on := 4, ground := Ground.phase }, { on := 5, ground := Ground.phase }, { on := 6, ground := Ground.phase }, { on := 7, ground := Ground.phase }, { on := 8, ground := Ground.phase }, { on := 9, ground := Ground.phase }, { on := 10, ground := Ground.phase }, { on := 11, ground := Ground.phase }, { on := 12, ground := Ground.phase }, { on := 13, ground := Ground.phase }, { on := 14, ground := Ground.phase }, { on := 15, ground := Ground.phase }, { on := 16, ground := Ground.phase }, { on := 17, ground := Ground.phase }, { on := 18, ground := Ground.phase }, { on := 19, ground := Ground.phase }, { on := 20, ground := Ground.phase }, { on := 21, ground := Ground.phase }, { on := 22, ground := Ground.phase }, { on := 23, ground := Ground.phase }, { on := 24, ground := Ground.phase }, { on := 25, ground := Ground.phase }, { on := 26, ground := Ground.phase }, { on := 27, ground := Ground.phase }, { on := 28, ground := Ground.phase }, { on := 29, ground := Ground.phase }, { on := 30, ground := Ground.phase }, { on := 31, ground := Ground.phase }, { on := 32, ground := Ground.phase }, { on := 33, ground := Ground.phase }, { on := 34, ground := Ground.phase }, { on := 35, ground := Ground.phase }, { on := 36, ground := Ground.phase }, { on := 37, ground := Ground.phase }, { on := 38, ground := Ground.phase }, { on := 39, ground := Ground.phase }, { on := 40, ground := Ground.phase }, { on := 41, ground := Ground.phase }, { on := 42, ground := Ground.phase }, { on := 43, ground := Ground.phase }, { on := 44, ground := Ground.phase }, { on := 45, ground := Ground.phase }], guard := none }) (v := .bool true) rfl (by kernel_rfl) (by kernel_rfl) (by kernel_rfl) (fun _ _ _ h => h) (Or.inl ⟨by rfl, ?_⟩) hHeld ?_
      · intro w hSw
        first
          | rfl
          | (go_simp; done)
      try simp only [Act.put, List.setIfInBounds_toArray, List.set_cons_zero, List.set_cons_succ]
      refine wpAnyH_done (by kernel_rfl) ?_ _
      go_wp2_with fail
      go_ret
      exact ⟨by first | rfl | kernel_rfl, bcall (unhide HB6) k22⟩
end Go.Proofs.YtonkgiiacholeaaDoor
