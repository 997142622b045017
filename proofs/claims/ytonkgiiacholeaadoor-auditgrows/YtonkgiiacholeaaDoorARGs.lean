/- The reference's Grows. -/
import Derived.Test.YtonkgiiacholeaaDoorAGAll
import Derived.Deep.RegionHeld
namespace Go.Proofs.YtonkgiiacholeaaDoor
set_option linter.unusedVariables false
set_option linter.unusedSimpArgs false
open Go.ChangeShapes Go.WideShapes Go.ChangeAt Go.RowKit Go.Joins

theorem RowAt.of {w : World} {g : Nat} {t : TypeId} {cs : List Value} {A : Array Value} (e : cs.toArray = A) (h : w.heap[g]? = some (.cells A t (0, 0))) : RowAt w g t cs := by subst e; exact h
theorem z54 : (Tryd.prog.info? 43).map (·.size) = some 32 := z27
theorem slice_one (g o n c : Nat) (w : World) (h1 : 1 ≤ n) (hn : n ≤ c) :
    (Instr.sliceAt 54 (.slice (some ⟨g, o, none⟩) n c) (some (.int .i64 1)) none none).run Tryd.prog w = .ok (.slice (if c = 1 then some ⟨g, o, none⟩ else some ⟨g, o + 32, none⟩) (n - 1) (c - 1)) w := by
  have e1 : ((0 : Int) ≤ (n : Int) ∧ (n : Int) ≤ (c : Int)) := by omega
  have e3 : ((0 : Int) ≤ (1 : Int) ∧ (1 : Int) ≤ (n : Int)) := by omega
  simp [Instr.sliceAt, run_underlying Tryd.underlying54, Instr.slice, Instr.sliceBounds, Instr.sliceBound, asIntOf, e1, e1.1, e1.2, e3, e3.1, e3.2, h1, hn, run_size z54, add_plain]
theorem wpList_slice1' {P : Program} {ops : Array Oper} {rest : List Oper} {o : Oper} {a : Act} {w : World} {Q : Exit → Act → World → Prop} (hgd : o.guard = none) (t : TypeId) (x lo : Operand) (ho : o.op = .slice t x (some lo) none none)
    (v vl : Value) (hx : a.eval x = v) (hlo : a.eval lo = vl) (r : Value) (hrun : (Instr.sliceAt t v (some vl) none none).run P w = .ok r w) (h : wpList P ops Q rest (a.put o.dst r) w) : wpList P ops Q (o :: rest) a w := by
  refine wpList_plain hgd fun K hK => ?_
  unfold Oper.wp execOp
  simp only [ho, hx, hlo, Option.map_some, Option.map_none, Sem.run_bind, Sem.run_pure, Result.andThen_ok, hrun]
  exact hK _ _ h
theorem PS.tail {w : World} {g o n c : Nat} {f : List Nat} {Q : List (List Nat)} (h : PS w (.slice (some ⟨g, o, none⟩) n c) (f :: Q)) : PS w (.slice (if c = 1 then some ⟨g, o, none⟩ else some ⟨g, o + 32, none⟩) (n - 1) (c - 1)) Q := by
  obtain ⟨a', c', h1, h2, h3, h4, h5⟩ := h
  obtain ⟨rfl, rfl, rfl⟩ : some ⟨g, o, none⟩ = a' ∧ n = (f :: Q).length ∧ c = c' := by simpa using h1
  rw [List.length_cons] at h2 h3
  refine ⟨_, _, by rw [List.length_cons, Nat.add_sub_cancel], by omega, by omega, fun s hs => h4 s (List.mem_cons_of_mem _ hs), ?_⟩
  cases Q with
  | nil => exact .inl rfl
  | cons q Q =>
    rw [if_neg (by rw [List.length_cons] at h2; omega)]
    rcases h5 with h5 | ⟨g', o', h5, h6⟩
    · cases h5
    · obtain ⟨rfl, rfl⟩ : g = g' ∧ o = o' := by simpa using h5
      refine .inr ⟨g, o + 32, rfl, rfl, fun i s hs => ?_⟩
      obtain ⟨x1, x2, x3⟩ := h6.at_ (i + 1) s (by simpa using hs)
      refine ⟨x1, x2, ?_⟩
      simp only at x3 ⊢
      rw [show o + 32 + i * 32 = o + (i + 1) * 32 by omega]
      exact x3
set_option maxRecDepth 100000 in
set_option maxHeartbeats 16000000 in
theorem rgrows_known (m n : Nat) (old R : List Nat) (P : List (List Nat)) (vp : Value) (w : World) (hm1 : 1 ≤ m) (hmn : m ≤ n) (hn : n ≤ 1099511627776) (ho : old.length = 32) (ho8 : U8 old) (hR : R.length = 32) (hP : PS w vp P) (hw : (wayL m n true).2 = true) :
    Calls Tryd.prog 39 #[.int .i64 (m : Int), .int .i64 (n : Int), .agg (bv old).toArray, .agg (bv R).toArray, vp] w fun e w' => e = .returned (.int .i64 (growsE m n old R P)) ∧ Below w.heap.size w w' := by
  rw [growsE_known hm1 hmn hw]
  have hz := zero27
  generalize hZ : (bv (List.replicate 32 0)).toArray = Z at hz
  have HZS : Hid (Z.size = 32) := hide (by rw [← hZ, List.size_toArray, bv_len, List.length_replicate])
  obtain ⟨OL, hOL⟩ : ∃ X, bv old = X := ⟨_, rfl⟩
  obtain ⟨OA, hOA⟩ : ∃ A, OL.toArray = A := ⟨_, rfl⟩
  obtain ⟨RA, hRA⟩ : ∃ A, (bv R).toArray = A := ⟨_, rfl⟩
  have HOS : Hid (OA.size = 32) := hide (by rw [← hOA, List.size_toArray, ← hOL, bv_len, ho])
  have HOO : Hid (OA.all (·.oneCell') = true) := hide (hOA ▸ hOL ▸ one_bv old)
  have HRS : Hid (RA.size = 32) := hide (by rw [← hRA, List.size_toArray, bv_len, hR])
  have b0 : Below w.heap.size w (w.alloc (.cells OA 43)) := (Below.refl _ _).alloc (Nat.le_refl _) _
  have bx : Below (w.alloc (.cells OA 43)).heap.size (w.alloc (.cells OA 43)) ((w.alloc (.cells OA 43)).alloc (.cells RA 43)) := (Below.refl _ _).alloc (Nat.le_refl _) _
  have HB1 : Hid (Below w.heap.size w ((w.alloc (.cells OA 43)).alloc (.cells RA 43))) := hide (b0.alloc b0.size _)
  have HR7 : Hid (RowAt ((w.alloc (.cells OA 43)).alloc (.cells RA 43)) w.heap.size 43 (bv old)) := hide (by
    have r0 : RowAt (w.alloc (.cells OA 43)) w.heap.size 43 (bv old) := hOA ▸ hOL ▸ RowAt.new w 43 (bv old)
    exact r0.below bx r0.lt)
  have HR8 : Hid (RowAt ((w.alloc (.cells OA 43)).alloc (.cells RA 43)) (w.heap.size + 1) 43 (bv R)) := hide (by
    have := RowAt.new (w.alloc (.cells OA 43)) 43 (bv R)
    rw [hRA, size_alloc] at this
    exact this)
  have HWY := hide (p := ∀ W, Below w.heap.size w W → _) (fun W (hW : Below w.heap.size w W) => rway_any n m true W hm1 hmn hn)
  rw [hw] at HWY
  have s40 := way_40 n m true hn
  obtain ⟨S, hS⟩ : ∃ S, (wayL m n true).1 = S := ⟨_, rfl⟩
  rw [hS] at HWY s40 ⊢
  have HOA : Hid ((bv old).toArray = OA) := hide (by rw [hOL, hOA])
  have HRA := hide hRA
  have HHO := hide ho
  have HHR := hide hR
  have c1 : ¬ (m : Int) < 1 := by omega
  have c2 : ¬ (n : Int) < (m : Int) := by omega
  have c3 : ¬ (1099511627776 : Int) < (n : Int) := by omega
  obtain ⟨f, hf⟩ : ∃ f, f = old := ⟨_, rfl⟩
  obtain ⟨Q, hQ⟩ : ∃ Q, Q = P := ⟨_, rfl⟩
  have hf1 : f.length = 32 ∧ U8 f := by rw [hf]; exact ⟨ho, ho8⟩
  have hPQ : PS w vp Q := hQ ▸ hP
  rw [show waL old S P = waL f S Q by rw [hf, hQ], show upL old S P = upL f S Q by rw [hf, hQ], show P.length = Q.length by rw [hQ]]
  obtain ⟨ra, rc, rfl, hrc, hrn, _, _⟩ := id hPQ
  obtain ⟨FL, hFL⟩ : ∃ X, bv f = X := ⟨_, rfl⟩
  obtain ⟨FA, hFA⟩ : ∃ A, FL.toArray = A := ⟨_, rfl⟩
  have HFO0 : Hid (OA = FA) := hide (by rw [← hFA, ← hFL, hf, hOL, hOA])
  have hiF : (Tryd.prog.info? 43).map (·.size) = some FL.length := hFL ▸ size43 hf1.1
  have HFS : Hid (FA.size = 32) := hide (by rw [← hFA, List.size_toArray, ← hFL, bv_len, hf1.1])
  have HFO : Hid (FA.all (·.oneCell') = true) := hide (hFA ▸ hFL ▸ one_bv f)
  have HUP : Hid (∀ k, ((waL f (S.take k) (Q.take k)).length = 32 ∧ U8 (waL f (S.take k) (Q.take k))) ∧ (upL f (S.take k) (Q.take k)).length = 32 ∧ U8 (upL f (S.take k) (Q.take k))) := hide (fun k => ⟨waL_ok hf1 _ _, upL_ok hf1.1 hf1.2 _ _⟩)
  have HPW := hide hPQ
  obtain ⟨rn, hrn'⟩ : ∃ m, Q.length = m := ⟨_, rfl⟩
  rw [hrn']
  rw [hOL, hOA, hRA]
  by_cases hlen : rn = S.length
  rotate_left
  · rw [if_neg (fun h => hlen h.1)]
    obtain ⟨sn, hsn'⟩ : ∃ m, S.length = m := ⟨_, rfl⟩
    rw [hsn'] at hlen
    have HSN := hide hsn'
    have q1 : ((rn : Int) != (sn : Int)) = true := bne_iff_ne.2 (by omega)
    have q2 : ((rn : Int) == (sn : Int)) = false := beq_eq_false_iff_ne.2 (by omega)
    have q3 : ¬ rn = sn := by omega
    have q4 : ¬ (rn : Int) = (sn : Int) := by omega
    clear hZ hOL hOA hRA b0 bx hm1 hmn hn ho ho8 hR hP hS hw hf hQ hrc hrn hPQ hlen s40 hsn' hrn'
    go_enter Tryd.func39, Tryd.ntmps39
    go_wp2_with fail
    generalize (w.alloc (.cells OA 43)).alloc (.cells RA 43) = w1 at *
    refine Calls.mono (unhide HWY _ (unhide HB1)) ?_
    rintro e w2 ⟨sv, rfl, b2, S2⟩
    have HB2 := hide (bcall (unhide HB1) b2)
    have HR72 := hide ((unhide HR7).below b2 (unhide HR7).lt)
    have HR82 := hide ((unhide HR8).below b2 (unhide HR8).lt)
    obtain ⟨sa, sc, hsv, _⟩ := own_shape S2
    rw [unhide HSN] at hsv
    subst hsv
    have HS2 := hide S2
    have HE72 := hide ((unhide HR72).arr (unhide HOA))
    have b2a : Below w2.heap.size w2 (w2.alloc (.cells OA 43)) := (Below.refl _ _).alloc (Nat.le_refl _) _
    have HB3 := hide (bcall (unhide HB2) b2a)
    have HR73 := hide ((unhide HR72).below b2a (unhide HR72).lt)
    have HR83 := hide ((unhide HR82).below b2a (unhide HR82).lt)
    have HS3 := hide (Bls.call (unhide HS2) b2a)
    have HN3 : Hid ((w2.alloc (.cells OA 43)).heap[w2.heap.size]? = some (.cells OA 43 (0, 0))) := hide (heap_alloc_new w2 _)
    clear b2 b2a S2 HWY
    go_wp2_with (first
      | (refine wpList_load_row rfl 43 _ rfl w.heap.size rfl 43 OA (0, 0) _ (unhide HE72) Tryd.underlying43 rfl (by rw [z27, unhide HOS]) ?_)
      | (refine wpList_store_new rfl 43 _ _ rfl OA rfl rfl (by rw [z27, unhide HOS]) (by rw [unhide HOS, unhide HZS]) (unhide HOO) ?_))
    go_ret
    exact ⟨rfl, unhide HB3⟩
  obtain ⟨N, hN⟩ : ∃ N, N = rn := ⟨_, rfl⟩
  have hSN : S.length = N := by omega
  have hQN : Q.length = N := by omega
  have HNN := hide (And.intro hQN hSN)
  have N40 : (N : Int) ≤ 40 := by omega
  have HU0 : Hid (waL f (S.take 0) (Q.take 0) = f ∧ upL f (S.take 0) (Q.take 0) = f) := hide ⟨by simp [waL], by simp [upL]⟩
  have HUN : Hid (waL f (S.take N) (Q.take N) = waL f S Q ∧ upL f (S.take N) (Q.take N) = upL f S Q) := hide (by rw [List.take_of_length_le (by omega), List.take_of_length_le (by omega)]; exact ⟨rfl, rfl⟩)
  obtain ⟨r1, hr1⟩ : ∃ r, decide (waL f S Q = old) = r := ⟨_, rfl⟩
  obtain ⟨r2, hr2⟩ : ∃ r, decide (upL f S Q = R) = r := ⟨_, rfl⟩
  have HRR := hide (And.intro hr1 hr2)
  rw [show (if rn = S.length ∧ waL f S Q = old ∧ upL f S Q = R then (0 : Int) else 140) = if (r1 && r2) = true then 0 else 140 by subst hr1 hr2; simp [hlen]]
  subst hN
  clear hZ hOL hOA hRA b0 bx hm1 hmn hn ho ho8 hR hP hS hw hf hQ hrc hrn hPQ hlen s40 hrn' hSN hQN hr1 hr2
  go_enter Tryd.func39, Tryd.ntmps39
  go_wp2_with fail
  generalize (w.alloc (.cells OA 43)).alloc (.cells RA 43) = w1 at *
  refine Calls.mono (unhide HWY _ (unhide HB1)) ?_
  rintro e w2 ⟨sv, rfl, b2, S2⟩
  have HB2 := hide (bcall (unhide HB1) b2)
  have HR72 := hide ((unhide HR7).below b2 (unhide HR7).lt)
  have HR82 := hide ((unhide HR8).below b2 (unhide HR8).lt)
  obtain ⟨sa, sc, hsv, _⟩ := own_shape S2
  rw [(unhide HNN).2] at hsv
  subst hsv
  have HS2 := hide S2
  have HE72 := hide ((unhide HR72).arr (unhide HOA))
  have b2a : Below w2.heap.size w2 (w2.alloc (.cells OA 43)) := (Below.refl _ _).alloc (Nat.le_refl _) _
  have HB3 := hide (bcall (unhide HB2) b2a)
  have HR73 := hide ((unhide HR72).below b2a (unhide HR72).lt)
  have HR83 := hide ((unhide HR82).below b2a (unhide HR82).lt)
  have HS3 := hide (Bls.call (unhide HS2) b2a)
  have HN3 : Hid ((w2.alloc (.cells OA 43)).heap[w2.heap.size]? = some (.cells OA 43 (0, 0))) := hide (heap_alloc_new w2 _)
  clear b2 b2a S2 HWY
  go_wp2_with (first
    | (refine wpList_load_row rfl 43 _ rfl w.heap.size rfl 43 OA (0, 0) _ (unhide HE72) Tryd.underlying43 rfl (by rw [z27, unhide HOS]) ?_)
    | (refine wpList_store_new rfl 43 _ _ rfl OA rfl rfl (by rw [z27, unhide HOS]) (by rw [unhide HOS, unhide HZS]) (unhide HOO) ?_))
  have HR13 : Hid (RowAt (w2.alloc (.cells OA 43)) w2.heap.size 43 FL) := hide (by show (w2.alloc (.cells OA 43)).heap[w2.heap.size]? = some (.cells FL.toArray 43 (0, 0)); rw [hFA, ← unhide HFO0]; exact unhide HN3)
  have HB4 := HB3
  have HR74 := HR73
  have HR84 := HR83
  have HS4 := HS3
  have HPQ := hide ((unhide HPW).call (unhide HB4))
  obtain ⟨g13, hg13⟩ : ∃ g, w2.heap.size = g := ⟨_, rfl⟩
  generalize w2.alloc (.cells OA 43) = w4 at *
  rw [hg13] at HR13 ⊢
  clear hg13
  refine wp_region_held_drew (S := fun w' => w'.rangeAt g13 0 FL) (by kernel_rfl) (show w4.drew.rangeAt g13 0 FL from (World.rangeAt_drew _ _ _ _).2 (unhide HR13).range) (fun hHeld => ?_)
  refine wpAnyH_take (i := 0) (oi := { dst := some 53, op := Op.load 43 (Operand.tmp 13), type := 43, pos := "ref.go:139", after := #[], guard := none }) (v := .agg FL.toArray) rfl (by kernel_rfl) (by kernel_rfl) (by kernel_rfl) (fun _ _ _ h => h)
    (yieldsIf_load_mid (by rfl) _ _ rfl g13 0 rfl FL _ (fun w h => h) Tryd.underlying43 rfl hiF) hHeld ?_
  try simp only [Act.put, List.setIfInBounds_toArray, List.set_cons_zero, List.set_cons_succ]
  refine wpAnyH_take (i := 1) (oi := { dst := some 54, op := Op.load 43 (Operand.tmp 13), type := 43, pos := "ref.go:139", after := #[{ on := 4, ground := Ground.gcOnly Departure.lateStores }], guard := none }) (v := .agg FL.toArray) rfl (by kernel_rfl) (by kernel_rfl) (by kernel_rfl) (fun _ _ _ h => h)
    (yieldsIf_load_mid (by rfl) _ _ rfl g13 0 rfl FL _ (fun w h => h) Tryd.underlying43 rfl hiF) hHeld ?_
  try simp only [Act.put, List.setIfInBounds_toArray, List.set_cons_zero, List.set_cons_succ]
  rw [hFA]
  refine wpAnyH_ready (rs := [2, 3]) (by kernel_rfl) (by simp) ?_
  refine AllReadyH.cons (o := { dst := some 15, op := Op.alloc 43, type := 0, pos := "ref.go:139", after := #[], guard := none }) rfl (fun K hK => ?_) (AllReadyH.cons (o := { dst := some 16, op := Op.alloc 43, type := 0, pos := "ref.go:139", after := #[], guard := none }) rfl (fun K hK => ?_) AllReadyH.nil)
  · go_simp
    refine hK.out _ _ ?_ (fun hHeld2 => ?_)
    · exact World.rangeAt_alloc hHeld _
    clear hK K
    try simp only [Act.put, List.setIfInBounds_toArray, List.set_cons_zero, List.set_cons_succ]
    refine wpAnyH_ready (rs := [3]) (by kernel_rfl) (by simp) ?_
    refine AllReadyH.cons (o := { dst := some 16, op := Op.alloc 43, type := 0, pos := "ref.go:139", after := #[], guard := none }) rfl (fun K hK => ?_) AllReadyH.nil
    go_simp
    refine hK.out _ _ ?_ (fun hHeld3 => ?_)
    · exact World.rangeAt_alloc hHeld2 _
    clear hK K
    try simp only [Act.put, List.setIfInBounds_toArray, List.set_cons_zero, List.set_cons_succ]
    have he1 : (((w4.alloc (.cells Z 43)).alloc (.cells Z 43)).drew).heap[w4.heap.size]? = some (.cells Z 43 (0, 0)) := by
      have bx : Below (w4.alloc (.cells Z 43)).heap.size (w4.alloc (.cells Z 43)) ((w4.alloc (.cells Z 43)).alloc (.cells Z 43)) := (Below.refl _ _).alloc (Nat.le_refl _) _
      exact (bx.block _ (by rw [size_alloc]; exact Nat.lt_succ_self _)).trans (heap_alloc_new w4 _)
    have he2 : (((w4.alloc (.cells Z 43)).alloc (.cells Z 43)).drew).heap[w4.heap.size + 1]? = some (.cells Z 43 (0, 0)) := by
      have := heap_alloc_new (w4.alloc (.cells Z 43)) (.cells Z 43)
      rw [size_alloc] at this
      exact this
    have HE15a : Hid ((((w4.alloc (.cells Z 43)).alloc (.cells Z 43)).drew).heap[w4.heap.size]? = some (.cells Z 43 (0, 0))) := hide he1
    have HE16a : Hid (((((w4.alloc (.cells Z 43)).alloc (.cells Z 43)).drew).setRow w4.heap.size FA).heap[(w4.heap.size + 1)]? = some (.cells Z 43 (0, 0))) := hide (arr_other he2 (by omega))
    have HBa : Hid (Below w4.heap.size w4 (((w4.alloc (.cells Z 43)).alloc (.cells Z 43)).drew)) := hide (by
      exact (bal (bal (Below.refl _ _) _) _).drew)
    have HG13 := hide (unhide HR13).lt
    clear he1 he2
    refine wpAnyH_ready (rs := [4]) (by kernel_rfl) (by simp) ?_
    refine AllReadyH.cons (o := { dst := none, op := Op.store 43 (Operand.tmp 15) (Operand.tmp 53), type := 0, pos := "ref.go:139", after := #[{ on := 2, ground := Ground.data }, { on := 0, ground := Ground.data }, { on := 0, ground := Ground.phase }, { on := 1, ground := Ground.textOnly Departure.lateStores }, { on := 2, ground := Ground.phase }, { on := 3, ground := Ground.phase }], guard := none }) rfl (fun K hK => ?_) AllReadyH.nil
    rw [if_pos (by rfl)]
    refine wp_store_row 43 _ _ rfl w4.heap.size FA rfl rfl 43 Z (unhide HE15a) (by rw [z27, unhide HFS]) (by rw [unhide HFS, unhide HZS]) (unhide HFO) ?_
    refine hK.out _ _ (rangeAt_setRow hHeld3 (by have := unhide HG13; omega) _) (fun hHeld4 => ?_)
    clear hK K
    try simp only [Act.put, List.setIfInBounds_toArray, List.set_cons_zero, List.set_cons_succ]
    refine wpAnyH_ready (rs := [5]) (by kernel_rfl) (by simp) ?_
    refine AllReadyH.cons (o := { dst := none, op := Op.store 43 (Operand.tmp 16) (Operand.tmp 54), type := 0, pos := "ref.go:139", after := #[{ on := 3, ground := Ground.data }, { on := 1, ground := Ground.data }, { on := 4, ground := Ground.chain }, { on := 0, ground := Ground.phase }, { on := 1, ground := Ground.phase }, { on := 2, ground := Ground.phase }, { on := 3, ground := Ground.phase }, { on := 4, ground := Ground.phase }], guard := none }) rfl (fun K hK => ?_) AllReadyH.nil
    rw [if_pos (by rfl)]
    refine wp_store_row 43 _ _ rfl (w4.heap.size + 1) FA rfl rfl 43 Z (unhide HE16a) (by rw [z27, unhide HFS]) (by rw [unhide HFS, unhide HZS]) (unhide HFO) ?_
    refine hK.out _ _ (rangeAt_setRow hHeld4 (by have := unhide HG13; omega) _) (fun hHeld5 => ?_)
    clear hK K
    try simp only [Act.put, List.setIfInBounds_toArray, List.set_cons_zero, List.set_cons_succ]
    refine wpAnyH_done (by kernel_rfl) ?_ _
    have HE15 : Hid ((((((w4.alloc (.cells Z 43)).alloc (.cells Z 43)).drew).setRow w4.heap.size FA).setRow (w4.heap.size + 1) FA).heap[w4.heap.size]? = some (.cells FA 43 (0, 0))) := hide (arr_other (setRow_heap _ _ _ _ _ _ (unhide HE15a)) (by omega))
    have HE16 : Hid ((((((w4.alloc (.cells Z 43)).alloc (.cells Z 43)).drew).setRow w4.heap.size FA).setRow (w4.heap.size + 1) FA).heap[(w4.heap.size + 1)]? = some (.cells FA 43 (0, 0))) := hide (setRow_heap _ _ _ _ _ _ (unhide HE16a))
    have HBL : Hid (Below w4.heap.size w4 (((((w4.alloc (.cells Z 43)).alloc (.cells Z 43)).drew).setRow w4.heap.size FA).setRow (w4.heap.size + 1) FA)) := hide (Below.setRow (Below.setRow (unhide HBa) _ _ (by omega)) _ _ (by omega))
    have HGG : Hid (w4.heap.size ≤ w4.heap.size ∧ w4.heap.size ≤ (w4.heap.size + 1) ∧ w4.heap.size ≠ (w4.heap.size + 1)) := hide (by omega)
    clear HE15a HE16a HBa HG13 hHeld hHeld2 hHeld3 hHeld4 hHeld5
    generalize ((((w4.alloc (.cells Z 43)).alloc (.cells Z 43)).drew).setRow w4.heap.size FA).setRow (w4.heap.size + 1) FA = wL at *
    obtain ⟨H, hH⟩ : ∃ g, w4.heap.size = g := ⟨_, rfl⟩
    obtain ⟨g15, h15⟩ : ∃ g, w4.heap.size = g := ⟨_, rfl⟩
    obtain ⟨g16, h16⟩ : ∃ g, (w4.heap.size + 1) = g := ⟨_, rfl⟩
    have HGG : Hid (H ≤ g15 ∧ H ≤ g16 ∧ g15 ≠ g16) := hide (by omega)
    rw [h16] at HE16 ⊢
    rw [h15] at HE15 ⊢
    have HH := hide hH
    have HR15 : Hid (RowAt wL g15 43 (bv f)) := hide (by show wL.heap[g15]? = some (.cells (bv f).toArray 43 (0, 0)); rw [hFL, hFA]; exact unhide HE15)
    have HR16 : Hid (RowAt wL g16 43 (bv f)) := hide (by show wL.heap[g16]? = some (.cells (bv f).toArray 43 (0, 0)); rw [hFL, hFA]; exact unhide HE16)
    clear h15 h16 hH
    clear HE15 HE16
    go_wp2_with fail
    go_loopw [57] (fun s wr => ∃ k : Nat, k ≤ N ∧ s = .int .i64 (k : Int) ∧ Hid (RowAt wr g15 43 (bv (waL f (S.take k) (Q.take k))) ∧ RowAt wr g16 43 (bv (upL f (S.take k) (Q.take k))) ∧ Below H wL wr)) (fun s _ => (N - intOf s).toNat)
    case atStart => exact ⟨0, by omega, by simp, hide ⟨by rw [(unhide HU0).1]; exact unhide HR15, by rw [(unhide HU0).2]; exact unhide HR16, Below.refl _ _⟩⟩
    case round =>
      obtain ⟨k, hk, rfl, HI⟩ := hrel
      have HGL : Hid (H ≤ wL.heap.size) := hide (by have := (unhide HR15).lt; have := (unhide HGG).1; omega)
      by_cases hlt : k < N
      · obtain ⟨hlP, hlS⟩ := unhide HNN
        obtain ⟨hrow, hrow2, hbel⟩ := unhide HI
        have BW4 : Below w4.heap.size w4 wr := by
          have h1 := unhide HBL
          have h2 := unhide HH
          exact h1.trans (h2 ▸ hbel)
        obtain ⟨ra', rc', hre, _, _, hp32, hps⟩ := (unhide HPQ).call BW4
        rw [hlP] at hre
        obtain ⟨rfl, rfl⟩ : ra = ra' ∧ rc = rc' := by simpa using hre
        rcases hps with hps | ⟨g, o, rfl, hps⟩
        · rw [hps] at hlP; simp at hlP; omega
        obtain ⟨x, hx⟩ : ∃ x, Q[k]? = some x := ⟨_, List.getElem?_eq_getElem (by omega)⟩
        obtain ⟨b, hb⟩ : ∃ x, S[k]? = some x := ⟨_, List.getElem?_eq_getElem (by omega)⟩
        obtain ⟨x1, x8⟩ := hp32 x (List.mem_of_getElem? hx)
        have HST := hide (And.intro (waL_take (s := f) hb hx) (upL_take (s := f) hb hx))
        obtain ⟨⟨l1, l8⟩, m1, m8⟩ := unhide HUP k
        obtain ⟨U, hU⟩ : ∃ U, waL f (S.take k) (Q.take k) = U := ⟨_, rfl⟩
        obtain ⟨V, hV⟩ : ∃ U, upL f (S.take k) (Q.take k) = U := ⟨_, rfl⟩
        rw [hU] at hrow HST l1 l8
        rw [hV] at hrow2 HST m1 m8
        have hS4 := (unhide HS4).call BW4
        obtain ⟨sg, sc', hsg, _⟩ := own_some hS4 (by omega)
        have hsg' := hsg
        rw [hlS] at hsg'
        obtain ⟨rfl, rfl⟩ : sa = some ⟨sg, 0, none⟩ ∧ sc = sc' := by simpa using hsg'
        have cb : wr.cell? ⟨sg, k, none⟩ = some (.bool b) := Bls.at (hlS ▸ hS4) hb
        obtain ⟨XA, hXA⟩ : ∃ A, (bv x).toArray = A := ⟨_, rfl⟩
        obtain ⟨UA, hUA⟩ : ∃ A, (bv U).toArray = A := ⟨_, rfl⟩
        obtain ⟨VA, hVA⟩ : ∃ A, (bv V).toArray = A := ⟨_, rfl⟩
        have HLX := hide (hps.load hx hXA)
        have HXS : Hid (XA.size = 32) := hide (by rw [← hXA, List.size_toArray, bv_len, x1])
        have HXO : Hid (XA.all (·.oneCell') = true) := hide (hXA ▸ one_bv _)
        have HUS : Hid (UA.size = 32) := hide (by rw [← hUA, List.size_toArray, bv_len, l1])
        have HVS : Hid (VA.size = 32) := hide (by rw [← hVA, List.size_toArray, bv_len, m1])
        have b1 : Below wr.heap.size wr (wr.alloc (.cells XA 43)) := (Below.refl _ _).alloc (Nat.le_refl _) _
        have cb1 : (wr.alloc (.cells XA 43)).cell? ⟨sg, k, none⟩ = some (.bool b) := (World.cell?_of_block (b1.block _ (World.block_lt_of_cell? _ _ cb))).trans cb
        have HX18 : Hid (RowAt (wr.alloc (.cells XA 43)) wr.heap.size 43 (bv x)) := hide (hXA ▸ RowAt.new wr 43 (bv x))
        have HX15 := hide (hrow.below b1 hrow.lt)
        have HX16 := hide (hrow2.below b1 hrow2.lt)
        have HBG := hide (hbel.alloc (Nat.le_trans (unhide HGL) hbel.size) (.cells XA 43))
        have HXA := hide hXA
        have HUA := hide hUA
        have HVA := hide hVA
        have kI : (k : Int) < (N : Int) := by omega
        have HE18 := hide ((unhide HX18).arr hXA)
        have HE15 := hide ((unhide HX15).arr hUA)
        have HE16 := hide ((unhide HX16).arr hVA)
        have HLT : Hid (g15 < wr.heap.size ∧ g16 < wr.heap.size) := hide ⟨hrow.lt, hrow2.lt⟩
        cases b with
        | true =>
          have HKN := hide (fun W => rknot_any x U W x1 l1 x8 l8)
          have HKM := hide (fun W => rknot_any x V W x1 m1 x8 m8)
          have hups : upS V true x = knotL x V := rfl
          have hwas : waS U true x = knotL x U := rfl
          rw [hups, hwas] at HST
          obtain ⟨KD, hKD⟩ : ∃ K, knotL x U = K := ⟨_, rfl⟩
          obtain ⟨MD, hMD⟩ : ∃ K, knotL x V = K := ⟨_, rfl⟩
          rw [hKD] at HKN HST
          rw [hMD] at HKM HST
          have HKL : Hid (KD.length = 32) := hide (by rw [← hKD, knotL_len])
          have HML : Hid (MD.length = 32) := hide (by rw [← hMD, knotL_len])
          obtain ⟨KA, hKA⟩ : ∃ A, (bv KD).toArray = A := ⟨_, rfl⟩
          obtain ⟨MA, hMA⟩ : ∃ A, (bv MD).toArray = A := ⟨_, rfl⟩
          rw [hKA, hXA, hUA] at HKN
          rw [hMA, hXA, hVA] at HKM
          have HKS : Hid (KA.size = 32) := hide (by rw [← hKA, List.size_toArray, bv_len, unhide HKL])
          have HMS : Hid (MA.size = 32) := hide (by rw [← hMA, List.size_toArray, bv_len, unhide HML])
          have HKO : Hid (KA.all (·.oneCell') = true) := hide (hKA ▸ one_bv _)
          have HMO : Hid (MA.all (·.oneCell') = true) := hide (hMA ▸ one_bv _)
          have HKA := hide hKA
          have HMA := hide hMA
          clear hKA hKD hMA hMD hups hwas hXA hUA hVA hU hV x1 x8 l1 l8 m1 m8 hx hb hps hp32 hlP hlS hrow hrow2 hbel b1 cb HI hsg hsg' hre BW4 hS4
          go_wp2_with (first
            | (refine wpList_load_run rfl 43 _ rfl ⟨g, o + k * 32, none⟩ rfl (.agg XA) (unhide HLX) ?_)
            | (refine wpList_store_new rfl 43 _ _ rfl XA rfl rfl (by rw [z27, unhide HXS]) (by rw [unhide HXS, unhide HZS]) (unhide HXO) ?_)
            | (refine wpList_load_row rfl 43 _ rfl wr.heap.size rfl 43 XA (0, 0) _ (unhide HE18) Tryd.underlying43 rfl (by rw [z27, unhide HXS]) ?_)
            | (refine wpList_load_row rfl 43 _ rfl g15 rfl 43 UA (0, 0) _ (unhide HE15) Tryd.underlying43 rfl (by rw [z27, unhide HUS]) ?_))
          refine Calls.mono (unhide HKN _) ?_
          rintro e w6 ⟨rfl, b6⟩
          have HE15c := hide (((unhide HX15).below b6 (unhide HX15).lt).arr (unhide HUA))
          have HE16c : Hid ((w6.setRow g15 KA).heap[g16]? = some (.cells VA 43 (0, 0))) := hide (arr_other (((unhide HX16).below b6 (unhide HX16).lt).arr (unhide HVA)) (Ne.symm (unhide HGG).2.2))
          have HE18c : Hid ((w6.setRow g15 KA).heap[wr.heap.size]? = some (.cells XA 43 (0, 0))) := hide (arr_other (((unhide HX18).below b6 (unhide HX18).lt).arr (unhide HXA)) (by have := (unhide HLT).1; omega))
          have HBG6 : Hid (Below H wL (w6.setRow g15 KA)) := hide (Below.setRow ((unhide HBG).trans (b6.mono (Nat.le_trans (unhide HGL) (unhide HBG).size))) _ _ (unhide HGG).1)
          clear b6 HKN
          go_wp2_with (first
            | (refine wpList_store_row rfl 43 _ _ rfl g15 KA rfl rfl 43 UA (unhide HE15c) (by rw [z27, unhide HKS]) (by rw [unhide HKS, unhide HUS]) (unhide HKO) ?_)
            | (refine wpList_load_row rfl 43 _ rfl wr.heap.size rfl 43 XA (0, 0) _ (unhide HE18c) Tryd.underlying43 rfl (by rw [z27, unhide HXS]) ?_)
            | (refine wpList_load_row rfl 43 _ rfl g16 rfl 43 VA (0, 0) _ (unhide HE16c) Tryd.underlying43 rfl (by rw [z27, unhide HVS]) ?_))
          have HE15d : Hid ((w6.setRow g15 KA).heap[g15]? = some (.cells KA 43 (0, 0))) := hide (setRow_heap _ _ _ _ _ _ (unhide HE15c))
          generalize w6.setRow g15 KA = w7 at *
          refine Calls.mono (unhide HKM _) ?_
          rintro e w8 ⟨rfl, b8⟩
          have HE16e : Hid (w8.heap[g16]? = some (.cells VA 43 (0, 0))) := hide ((b8.block _ (Array.getElem?_eq_some_iff.1 (unhide HE16c)).1).trans (unhide HE16c))
          have HE15e : Hid (w8.heap[g15]? = some (.cells KA 43 (0, 0))) := hide ((b8.block _ (Array.getElem?_eq_some_iff.1 (unhide HE15d)).1).trans (unhide HE15d))
          have HBG8 : Hid (Below H wL w8) := hide ((unhide HBG6).trans (b8.mono (Nat.le_trans (unhide HGL) (unhide HBG6).size)))
          clear b8 HKM
          go_wp2_with (refine wpList_store_row rfl 43 _ _ rfl g16 MA rfl rfl 43 VA (unhide HE16e) (by rw [z27, unhide HMS]) (by rw [unhide HMS, unhide HVS]) (unhide HMO) ?_)
          go_roundw
          case rel => exact ⟨k + 1, by omega, by simp, hide ⟨by rw [(unhide HST).1]; exact RowAt.of (unhide HKA) (arr_other (unhide HE15e) (unhide HGG).2.2), by rw [(unhide HST).2]; exact RowAt.of (unhide HMA) (setRow_heap _ _ _ _ _ _ (unhide HE16e)), Below.setRow (unhide HBG8) _ _ (unhide HGG).2.1⟩⟩
          case measure => simp [intOf]; omega
        | false =>
          have HKN := hide (fun W => rknot_any V x W m1 x1 m8 x8)
          have hups : upS V false x = knotL V x := rfl
          have hwas : waS U false x = U := rfl
          rw [hups, hwas] at HST
          obtain ⟨KD, hKD⟩ : ∃ K, knotL V x = K := ⟨_, rfl⟩
          rw [hKD] at HKN HST
          have HKL : Hid (KD.length = 32) := hide (by rw [← hKD, knotL_len])
          obtain ⟨KA, hKA⟩ : ∃ A, (bv KD).toArray = A := ⟨_, rfl⟩
          rw [hKA, hXA, hVA] at HKN
          have HKS : Hid (KA.size = 32) := hide (by rw [← hKA, List.size_toArray, bv_len, unhide HKL])
          have HKO : Hid (KA.all (·.oneCell') = true) := hide (hKA ▸ one_bv _)
          have HKA := hide hKA
          clear hKA hKD hups hwas hXA hUA hVA hU hV x1 x8 l1 l8 m1 m8 hx hb hps hp32 hlP hlS hrow hrow2 hbel b1 cb HI hsg hsg' hre BW4 hS4
          go_wp2_with (first
            | (refine wpList_load_run rfl 43 _ rfl ⟨g, o + k * 32, none⟩ rfl (.agg XA) (unhide HLX) ?_)
            | (refine wpList_store_new rfl 43 _ _ rfl XA rfl rfl (by rw [z27, unhide HXS]) (by rw [unhide HXS, unhide HZS]) (unhide HXO) ?_)
            | (refine wpList_load_row rfl 43 _ rfl wr.heap.size rfl 43 XA (0, 0) _ (unhide HE18) Tryd.underlying43 rfl (by rw [z27, unhide HXS]) ?_)
            | (refine wpList_load_row rfl 43 _ rfl g16 rfl 43 VA (0, 0) _ (unhide HE16) Tryd.underlying43 rfl (by rw [z27, unhide HVS]) ?_))
          refine Calls.mono (unhide HKN _) ?_
          rintro e w6 ⟨rfl, b6⟩
          have HR15c := hide ((unhide HX15).below b6 (unhide HX15).lt)
          have HE16c := hide (((unhide HX16).below b6 (unhide HX16).lt).arr (unhide HVA))
          have HBG6 := hide ((unhide HBG).trans (b6.mono (Nat.le_trans (unhide HGL) (unhide HBG).size)))
          clear b6 HKN
          go_wp2_with (refine wpList_store_row rfl 43 _ _ rfl g16 KA rfl rfl 43 VA (unhide HE16c) (by rw [z27, unhide HKS]) (by rw [unhide HKS, unhide HVS]) (unhide HKO) ?_)
          go_roundw
          case rel => exact ⟨k + 1, by omega, by simp, hide ⟨by rw [(unhide HST).1]; exact arr_other (unhide HR15c) (unhide HGG).2.2, by rw [(unhide HST).2]; exact RowAt.of (unhide HKA) (setRow_heap _ _ _ _ _ _ (unhide HE16c)), Below.setRow (unhide HBG6) _ _ (unhide HGG).2.1⟩⟩
          case measure => simp [intOf]; omega
      · obtain rfl : k = N := by omega
        have kI : ¬ (k : Int) < (k : Int) := by omega
        obtain ⟨hrow, hrow2, hbel⟩ := unhide HI
        have BW4 : Below w4.heap.size w4 wr := by
          have h1 := unhide HBL
          have h2 := unhide HH
          exact h1.trans (h2 ▸ hbel)
        have HBW := hide (bcall (unhide HB4) BW4)
        obtain ⟨⟨l1, l8⟩, m1, m8⟩ := unhide HUP k
        rw [(unhide HUN).1] at hrow l1
        rw [(unhide HUN).2] at hrow2 m1
        have hq1 := eq_sums (waL f S Q) old l1 (unhide HHO)
        have hq2 := eq_sums (upL f S Q) R m1 (unhide HHR)
        rw [(unhide HRR).1] at hq1
        rw [(unhide HRR).2] at hq2
        obtain ⟨UA, hUA⟩ : ∃ A, (bv (waL f S Q)).toArray = A := ⟨_, rfl⟩
        obtain ⟨VA, hVA⟩ : ∃ A, (bv (upL f S Q)).toArray = A := ⟨_, rfl⟩
        rw [hUA, unhide HOA] at hq1
        rw [hVA, unhide HRA] at hq2
        have HUS : Hid (UA.size = 32) := hide (by rw [← hUA, List.size_toArray, bv_len, l1])
        have HVS : Hid (VA.size = 32) := hide (by rw [← hVA, List.size_toArray, bv_len, m1])
        have HE15 := hide (hrow.arr hUA)
        have HE16 := hide (hrow2.arr hVA)
        have HE7 := hide (((unhide HR74).below BW4 (unhide HR74).lt).arr (unhide HOA))
        have HE8 := hide (((unhide HR84).below BW4 (unhide HR84).lt).arr (unhide HRA))
        clear hUA hVA l1 l8 m1 m8 hrow hrow2 hbel BW4 hlt HI
        cases r1 with
        | false =>
          go_wp2_with (first
            | (refine wpList_load_row rfl 43 _ rfl g15 rfl 43 UA (0, 0) _ (unhide HE15) Tryd.underlying43 rfl (by rw [z27, unhide HUS]) ?_)
            | (refine wpList_load_row rfl 43 _ rfl w.heap.size rfl 43 OA (0, 0) _ (unhide HE7) Tryd.underlying43 rfl (by rw [z27, unhide HOS]) ?_)
            | (refine wpList_load_if rfl 43 _ rfl g16 rfl 43 VA (0, 0) _ (unhide HE16) Tryd.underlying43 rfl (by rw [z27, unhide HVS]) ?_)
            | (refine wpList_load_if rfl 43 _ rfl (w.heap.size + 1) rfl 43 RA (0, 0) _ (unhide HE8) Tryd.underlying43 rfl (by rw [z27, unhide HRS]) ?_))
          go_ret
          exact ⟨rfl, unhide HBW⟩
        | true =>
          cases r2 with
          | false =>
            go_wp2_with (first
              | (refine wpList_load_row rfl 43 _ rfl g15 rfl 43 UA (0, 0) _ (unhide HE15) Tryd.underlying43 rfl (by rw [z27, unhide HUS]) ?_)
              | (refine wpList_load_row rfl 43 _ rfl w.heap.size rfl 43 OA (0, 0) _ (unhide HE7) Tryd.underlying43 rfl (by rw [z27, unhide HOS]) ?_)
              | (refine wpList_load_if rfl 43 _ rfl g16 rfl 43 VA (0, 0) _ (unhide HE16) Tryd.underlying43 rfl (by rw [z27, unhide HVS]) ?_)
              | (refine wpList_load_if rfl 43 _ rfl (w.heap.size + 1) rfl 43 RA (0, 0) _ (unhide HE8) Tryd.underlying43 rfl (by rw [z27, unhide HRS]) ?_))
            go_ret
            exact ⟨rfl, unhide HBW⟩
          | true =>
            go_wp2_with (first
              | (refine wpList_load_row rfl 43 _ rfl g15 rfl 43 UA (0, 0) _ (unhide HE15) Tryd.underlying43 rfl (by rw [z27, unhide HUS]) ?_)
              | (refine wpList_load_row rfl 43 _ rfl w.heap.size rfl 43 OA (0, 0) _ (unhide HE7) Tryd.underlying43 rfl (by rw [z27, unhide HOS]) ?_)
              | (refine wpList_load_if rfl 43 _ rfl g16 rfl 43 VA (0, 0) _ (unhide HE16) Tryd.underlying43 rfl (by rw [z27, unhide HVS]) ?_)
              | (refine wpList_load_if rfl 43 _ rfl (w.heap.size + 1) rfl 43 RA (0, 0) _ (unhide HE8) Tryd.underlying43 rfl (by rw [z27, unhide HRS]) ?_))
            go_ret
            exact ⟨rfl, unhide HBW⟩
  · go_simp
    refine hK.out _ _ ?_ (fun hHeld2 => ?_)
    · exact World.rangeAt_alloc hHeld _
    clear hK K
    try simp only [Act.put, List.setIfInBounds_toArray, List.set_cons_zero, List.set_cons_succ]
    refine wpAnyH_ready (rs := [2]) (by kernel_rfl) (by simp) ?_
    refine AllReadyH.cons (o := { dst := some 15, op := Op.alloc 43, type := 0, pos := "ref.go:139", after := #[], guard := none }) rfl (fun K hK => ?_) AllReadyH.nil
    go_simp
    refine hK.out _ _ ?_ (fun hHeld3 => ?_)
    · exact World.rangeAt_alloc hHeld2 _
    clear hK K
    try simp only [Act.put, List.setIfInBounds_toArray, List.set_cons_zero, List.set_cons_succ]
    have he1 : (((w4.alloc (.cells Z 43)).alloc (.cells Z 43)).drew).heap[w4.heap.size]? = some (.cells Z 43 (0, 0)) := by
      have bx : Below (w4.alloc (.cells Z 43)).heap.size (w4.alloc (.cells Z 43)) ((w4.alloc (.cells Z 43)).alloc (.cells Z 43)) := (Below.refl _ _).alloc (Nat.le_refl _) _
      exact (bx.block _ (by rw [size_alloc]; exact Nat.lt_succ_self _)).trans (heap_alloc_new w4 _)
    have he2 : (((w4.alloc (.cells Z 43)).alloc (.cells Z 43)).drew).heap[w4.heap.size + 1]? = some (.cells Z 43 (0, 0)) := by
      have := heap_alloc_new (w4.alloc (.cells Z 43)) (.cells Z 43)
      rw [size_alloc] at this
      exact this
    have HE15a : Hid ((((w4.alloc (.cells Z 43)).alloc (.cells Z 43)).drew).heap[(w4.heap.size + 1)]? = some (.cells Z 43 (0, 0))) := hide he2
    have HE16a : Hid (((((w4.alloc (.cells Z 43)).alloc (.cells Z 43)).drew).setRow (w4.heap.size + 1) FA).heap[w4.heap.size]? = some (.cells Z 43 (0, 0))) := hide (arr_other he1 (by omega))
    have HBa : Hid (Below w4.heap.size w4 (((w4.alloc (.cells Z 43)).alloc (.cells Z 43)).drew)) := hide (by
      exact (bal (bal (Below.refl _ _) _) _).drew)
    have HG13 := hide (unhide HR13).lt
    clear he1 he2
    refine wpAnyH_ready (rs := [4]) (by kernel_rfl) (by simp) ?_
    refine AllReadyH.cons (o := { dst := none, op := Op.store 43 (Operand.tmp 15) (Operand.tmp 53), type := 0, pos := "ref.go:139", after := #[{ on := 2, ground := Ground.data }, { on := 0, ground := Ground.data }, { on := 0, ground := Ground.phase }, { on := 1, ground := Ground.textOnly Departure.lateStores }, { on := 2, ground := Ground.phase }, { on := 3, ground := Ground.phase }], guard := none }) rfl (fun K hK => ?_) AllReadyH.nil
    rw [if_pos (by rfl)]
    refine wp_store_row 43 _ _ rfl (w4.heap.size + 1) FA rfl rfl 43 Z (unhide HE15a) (by rw [z27, unhide HFS]) (by rw [unhide HFS, unhide HZS]) (unhide HFO) ?_
    refine hK.out _ _ (rangeAt_setRow hHeld3 (by have := unhide HG13; omega) _) (fun hHeld4 => ?_)
    clear hK K
    try simp only [Act.put, List.setIfInBounds_toArray, List.set_cons_zero, List.set_cons_succ]
    refine wpAnyH_ready (rs := [5]) (by kernel_rfl) (by simp) ?_
    refine AllReadyH.cons (o := { dst := none, op := Op.store 43 (Operand.tmp 16) (Operand.tmp 54), type := 0, pos := "ref.go:139", after := #[{ on := 3, ground := Ground.data }, { on := 1, ground := Ground.data }, { on := 4, ground := Ground.chain }, { on := 0, ground := Ground.phase }, { on := 1, ground := Ground.phase }, { on := 2, ground := Ground.phase }, { on := 3, ground := Ground.phase }, { on := 4, ground := Ground.phase }], guard := none }) rfl (fun K hK => ?_) AllReadyH.nil
    rw [if_pos (by rfl)]
    refine wp_store_row 43 _ _ rfl w4.heap.size FA rfl rfl 43 Z (unhide HE16a) (by rw [z27, unhide HFS]) (by rw [unhide HFS, unhide HZS]) (unhide HFO) ?_
    refine hK.out _ _ (rangeAt_setRow hHeld4 (by have := unhide HG13; omega) _) (fun hHeld5 => ?_)
    clear hK K
    try simp only [Act.put, List.setIfInBounds_toArray, List.set_cons_zero, List.set_cons_succ]
    refine wpAnyH_done (by kernel_rfl) ?_ _
    have HE15 : Hid ((((((w4.alloc (.cells Z 43)).alloc (.cells Z 43)).drew).setRow (w4.heap.size + 1) FA).setRow w4.heap.size FA).heap[(w4.heap.size + 1)]? = some (.cells FA 43 (0, 0))) := hide (arr_other (setRow_heap _ _ _ _ _ _ (unhide HE15a)) (by omega))
    have HE16 : Hid ((((((w4.alloc (.cells Z 43)).alloc (.cells Z 43)).drew).setRow (w4.heap.size + 1) FA).setRow w4.heap.size FA).heap[w4.heap.size]? = some (.cells FA 43 (0, 0))) := hide (setRow_heap _ _ _ _ _ _ (unhide HE16a))
    have HBL : Hid (Below w4.heap.size w4 (((((w4.alloc (.cells Z 43)).alloc (.cells Z 43)).drew).setRow (w4.heap.size + 1) FA).setRow w4.heap.size FA)) := hide (Below.setRow (Below.setRow (unhide HBa) _ _ (by omega)) _ _ (by omega))
    have HGG : Hid (w4.heap.size ≤ (w4.heap.size + 1) ∧ w4.heap.size ≤ w4.heap.size ∧ (w4.heap.size + 1) ≠ w4.heap.size) := hide (by omega)
    clear HE15a HE16a HBa HG13 hHeld hHeld2 hHeld3 hHeld4 hHeld5
    generalize ((((w4.alloc (.cells Z 43)).alloc (.cells Z 43)).drew).setRow (w4.heap.size + 1) FA).setRow w4.heap.size FA = wL at *
    obtain ⟨H, hH⟩ : ∃ g, w4.heap.size = g := ⟨_, rfl⟩
    obtain ⟨g15, h15⟩ : ∃ g, (w4.heap.size + 1) = g := ⟨_, rfl⟩
    obtain ⟨g16, h16⟩ : ∃ g, w4.heap.size = g := ⟨_, rfl⟩
    have HGG : Hid (H ≤ g15 ∧ H ≤ g16 ∧ g15 ≠ g16) := hide (by omega)
    rw [h15] at HE15 ⊢
    rw [h16] at HE16 ⊢
    have HH := hide hH
    have HR15 : Hid (RowAt wL g15 43 (bv f)) := hide (by show wL.heap[g15]? = some (.cells (bv f).toArray 43 (0, 0)); rw [hFL, hFA]; exact unhide HE15)
    have HR16 : Hid (RowAt wL g16 43 (bv f)) := hide (by show wL.heap[g16]? = some (.cells (bv f).toArray 43 (0, 0)); rw [hFL, hFA]; exact unhide HE16)
    clear h15 h16 hH
    clear HE15 HE16
    go_wp2_with fail
    go_loopw [57] (fun s wr => ∃ k : Nat, k ≤ N ∧ s = .int .i64 (k : Int) ∧ Hid (RowAt wr g15 43 (bv (waL f (S.take k) (Q.take k))) ∧ RowAt wr g16 43 (bv (upL f (S.take k) (Q.take k))) ∧ Below H wL wr)) (fun s _ => (N - intOf s).toNat)
    case atStart => exact ⟨0, by omega, by simp, hide ⟨by rw [(unhide HU0).1]; exact unhide HR15, by rw [(unhide HU0).2]; exact unhide HR16, Below.refl _ _⟩⟩
    case round =>
      obtain ⟨k, hk, rfl, HI⟩ := hrel
      have HGL : Hid (H ≤ wL.heap.size) := hide (by have := (unhide HR15).lt; have := (unhide HGG).1; omega)
      by_cases hlt : k < N
      · obtain ⟨hlP, hlS⟩ := unhide HNN
        obtain ⟨hrow, hrow2, hbel⟩ := unhide HI
        have BW4 : Below w4.heap.size w4 wr := by
          have h1 := unhide HBL
          have h2 := unhide HH
          exact h1.trans (h2 ▸ hbel)
        obtain ⟨ra', rc', hre, _, _, hp32, hps⟩ := (unhide HPQ).call BW4
        rw [hlP] at hre
        obtain ⟨rfl, rfl⟩ : ra = ra' ∧ rc = rc' := by simpa using hre
        rcases hps with hps | ⟨g, o, rfl, hps⟩
        · rw [hps] at hlP; simp at hlP; omega
        obtain ⟨x, hx⟩ : ∃ x, Q[k]? = some x := ⟨_, List.getElem?_eq_getElem (by omega)⟩
        obtain ⟨b, hb⟩ : ∃ x, S[k]? = some x := ⟨_, List.getElem?_eq_getElem (by omega)⟩
        obtain ⟨x1, x8⟩ := hp32 x (List.mem_of_getElem? hx)
        have HST := hide (And.intro (waL_take (s := f) hb hx) (upL_take (s := f) hb hx))
        obtain ⟨⟨l1, l8⟩, m1, m8⟩ := unhide HUP k
        obtain ⟨U, hU⟩ : ∃ U, waL f (S.take k) (Q.take k) = U := ⟨_, rfl⟩
        obtain ⟨V, hV⟩ : ∃ U, upL f (S.take k) (Q.take k) = U := ⟨_, rfl⟩
        rw [hU] at hrow HST l1 l8
        rw [hV] at hrow2 HST m1 m8
        have hS4 := (unhide HS4).call BW4
        obtain ⟨sg, sc', hsg, _⟩ := own_some hS4 (by omega)
        have hsg' := hsg
        rw [hlS] at hsg'
        obtain ⟨rfl, rfl⟩ : sa = some ⟨sg, 0, none⟩ ∧ sc = sc' := by simpa using hsg'
        have cb : wr.cell? ⟨sg, k, none⟩ = some (.bool b) := Bls.at (hlS ▸ hS4) hb
        obtain ⟨XA, hXA⟩ : ∃ A, (bv x).toArray = A := ⟨_, rfl⟩
        obtain ⟨UA, hUA⟩ : ∃ A, (bv U).toArray = A := ⟨_, rfl⟩
        obtain ⟨VA, hVA⟩ : ∃ A, (bv V).toArray = A := ⟨_, rfl⟩
        have HLX := hide (hps.load hx hXA)
        have HXS : Hid (XA.size = 32) := hide (by rw [← hXA, List.size_toArray, bv_len, x1])
        have HXO : Hid (XA.all (·.oneCell') = true) := hide (hXA ▸ one_bv _)
        have HUS : Hid (UA.size = 32) := hide (by rw [← hUA, List.size_toArray, bv_len, l1])
        have HVS : Hid (VA.size = 32) := hide (by rw [← hVA, List.size_toArray, bv_len, m1])
        have b1 : Below wr.heap.size wr (wr.alloc (.cells XA 43)) := (Below.refl _ _).alloc (Nat.le_refl _) _
        have cb1 : (wr.alloc (.cells XA 43)).cell? ⟨sg, k, none⟩ = some (.bool b) := (World.cell?_of_block (b1.block _ (World.block_lt_of_cell? _ _ cb))).trans cb
        have HX18 : Hid (RowAt (wr.alloc (.cells XA 43)) wr.heap.size 43 (bv x)) := hide (hXA ▸ RowAt.new wr 43 (bv x))
        have HX15 := hide (hrow.below b1 hrow.lt)
        have HX16 := hide (hrow2.below b1 hrow2.lt)
        have HBG := hide (hbel.alloc (Nat.le_trans (unhide HGL) hbel.size) (.cells XA 43))
        have HXA := hide hXA
        have HUA := hide hUA
        have HVA := hide hVA
        have kI : (k : Int) < (N : Int) := by omega
        have HE18 := hide ((unhide HX18).arr hXA)
        have HE15 := hide ((unhide HX15).arr hUA)
        have HE16 := hide ((unhide HX16).arr hVA)
        have HLT : Hid (g15 < wr.heap.size ∧ g16 < wr.heap.size) := hide ⟨hrow.lt, hrow2.lt⟩
        cases b with
        | true =>
          have HKN := hide (fun W => rknot_any x U W x1 l1 x8 l8)
          have HKM := hide (fun W => rknot_any x V W x1 m1 x8 m8)
          have hups : upS V true x = knotL x V := rfl
          have hwas : waS U true x = knotL x U := rfl
          rw [hups, hwas] at HST
          obtain ⟨KD, hKD⟩ : ∃ K, knotL x U = K := ⟨_, rfl⟩
          obtain ⟨MD, hMD⟩ : ∃ K, knotL x V = K := ⟨_, rfl⟩
          rw [hKD] at HKN HST
          rw [hMD] at HKM HST
          have HKL : Hid (KD.length = 32) := hide (by rw [← hKD, knotL_len])
          have HML : Hid (MD.length = 32) := hide (by rw [← hMD, knotL_len])
          obtain ⟨KA, hKA⟩ : ∃ A, (bv KD).toArray = A := ⟨_, rfl⟩
          obtain ⟨MA, hMA⟩ : ∃ A, (bv MD).toArray = A := ⟨_, rfl⟩
          rw [hKA, hXA, hUA] at HKN
          rw [hMA, hXA, hVA] at HKM
          have HKS : Hid (KA.size = 32) := hide (by rw [← hKA, List.size_toArray, bv_len, unhide HKL])
          have HMS : Hid (MA.size = 32) := hide (by rw [← hMA, List.size_toArray, bv_len, unhide HML])
          have HKO : Hid (KA.all (·.oneCell') = true) := hide (hKA ▸ one_bv _)
          have HMO : Hid (MA.all (·.oneCell') = true) := hide (hMA ▸ one_bv _)
          have HKA := hide hKA
          have HMA := hide hMA
          clear hKA hKD hMA hMD hups hwas hXA hUA hVA hU hV x1 x8 l1 l8 m1 m8 hx hb hps hp32 hlP hlS hrow hrow2 hbel b1 cb HI hsg hsg' hre BW4 hS4
          go_wp2_with (first
            | (refine wpList_load_run rfl 43 _ rfl ⟨g, o + k * 32, none⟩ rfl (.agg XA) (unhide HLX) ?_)
            | (refine wpList_store_new rfl 43 _ _ rfl XA rfl rfl (by rw [z27, unhide HXS]) (by rw [unhide HXS, unhide HZS]) (unhide HXO) ?_)
            | (refine wpList_load_row rfl 43 _ rfl wr.heap.size rfl 43 XA (0, 0) _ (unhide HE18) Tryd.underlying43 rfl (by rw [z27, unhide HXS]) ?_)
            | (refine wpList_load_row rfl 43 _ rfl g15 rfl 43 UA (0, 0) _ (unhide HE15) Tryd.underlying43 rfl (by rw [z27, unhide HUS]) ?_))
          refine Calls.mono (unhide HKN _) ?_
          rintro e w6 ⟨rfl, b6⟩
          have HE15c := hide (((unhide HX15).below b6 (unhide HX15).lt).arr (unhide HUA))
          have HE16c : Hid ((w6.setRow g15 KA).heap[g16]? = some (.cells VA 43 (0, 0))) := hide (arr_other (((unhide HX16).below b6 (unhide HX16).lt).arr (unhide HVA)) (Ne.symm (unhide HGG).2.2))
          have HE18c : Hid ((w6.setRow g15 KA).heap[wr.heap.size]? = some (.cells XA 43 (0, 0))) := hide (arr_other (((unhide HX18).below b6 (unhide HX18).lt).arr (unhide HXA)) (by have := (unhide HLT).1; omega))
          have HBG6 : Hid (Below H wL (w6.setRow g15 KA)) := hide (Below.setRow ((unhide HBG).trans (b6.mono (Nat.le_trans (unhide HGL) (unhide HBG).size))) _ _ (unhide HGG).1)
          clear b6 HKN
          go_wp2_with (first
            | (refine wpList_store_row rfl 43 _ _ rfl g15 KA rfl rfl 43 UA (unhide HE15c) (by rw [z27, unhide HKS]) (by rw [unhide HKS, unhide HUS]) (unhide HKO) ?_)
            | (refine wpList_load_row rfl 43 _ rfl wr.heap.size rfl 43 XA (0, 0) _ (unhide HE18c) Tryd.underlying43 rfl (by rw [z27, unhide HXS]) ?_)
            | (refine wpList_load_row rfl 43 _ rfl g16 rfl 43 VA (0, 0) _ (unhide HE16c) Tryd.underlying43 rfl (by rw [z27, unhide HVS]) ?_))
          have HE15d : Hid ((w6.setRow g15 KA).heap[g15]? = some (.cells KA 43 (0, 0))) := hide (setRow_heap _ _ _ _ _ _ (unhide HE15c))
          generalize w6.setRow g15 KA = w7 at *
          refine Calls.mono (unhide HKM _) ?_
          rintro e w8 ⟨rfl, b8⟩
          have HE16e : Hid (w8.heap[g16]? = some (.cells VA 43 (0, 0))) := hide ((b8.block _ (Array.getElem?_eq_some_iff.1 (unhide HE16c)).1).trans (unhide HE16c))
          have HE15e : Hid (w8.heap[g15]? = some (.cells KA 43 (0, 0))) := hide ((b8.block _ (Array.getElem?_eq_some_iff.1 (unhide HE15d)).1).trans (unhide HE15d))
          have HBG8 : Hid (Below H wL w8) := hide ((unhide HBG6).trans (b8.mono (Nat.le_trans (unhide HGL) (unhide HBG6).size)))
          clear b8 HKM
          go_wp2_with (refine wpList_store_row rfl 43 _ _ rfl g16 MA rfl rfl 43 VA (unhide HE16e) (by rw [z27, unhide HMS]) (by rw [unhide HMS, unhide HVS]) (unhide HMO) ?_)
          go_roundw
          case rel => exact ⟨k + 1, by omega, by simp, hide ⟨by rw [(unhide HST).1]; exact RowAt.of (unhide HKA) (arr_other (unhide HE15e) (unhide HGG).2.2), by rw [(unhide HST).2]; exact RowAt.of (unhide HMA) (setRow_heap _ _ _ _ _ _ (unhide HE16e)), Below.setRow (unhide HBG8) _ _ (unhide HGG).2.1⟩⟩
          case measure => simp [intOf]; omega
        | false =>
          have HKN := hide (fun W => rknot_any V x W m1 x1 m8 x8)
          have hups : upS V false x = knotL V x := rfl
          have hwas : waS U false x = U := rfl
          rw [hups, hwas] at HST
          obtain ⟨KD, hKD⟩ : ∃ K, knotL V x = K := ⟨_, rfl⟩
          rw [hKD] at HKN HST
          have HKL : Hid (KD.length = 32) := hide (by rw [← hKD, knotL_len])
          obtain ⟨KA, hKA⟩ : ∃ A, (bv KD).toArray = A := ⟨_, rfl⟩
          rw [hKA, hXA, hVA] at HKN
          have HKS : Hid (KA.size = 32) := hide (by rw [← hKA, List.size_toArray, bv_len, unhide HKL])
          have HKO : Hid (KA.all (·.oneCell') = true) := hide (hKA ▸ one_bv _)
          have HKA := hide hKA
          clear hKA hKD hups hwas hXA hUA hVA hU hV x1 x8 l1 l8 m1 m8 hx hb hps hp32 hlP hlS hrow hrow2 hbel b1 cb HI hsg hsg' hre BW4 hS4
          go_wp2_with (first
            | (refine wpList_load_run rfl 43 _ rfl ⟨g, o + k * 32, none⟩ rfl (.agg XA) (unhide HLX) ?_)
            | (refine wpList_store_new rfl 43 _ _ rfl XA rfl rfl (by rw [z27, unhide HXS]) (by rw [unhide HXS, unhide HZS]) (unhide HXO) ?_)
            | (refine wpList_load_row rfl 43 _ rfl wr.heap.size rfl 43 XA (0, 0) _ (unhide HE18) Tryd.underlying43 rfl (by rw [z27, unhide HXS]) ?_)
            | (refine wpList_load_row rfl 43 _ rfl g16 rfl 43 VA (0, 0) _ (unhide HE16) Tryd.underlying43 rfl (by rw [z27, unhide HVS]) ?_))
          refine Calls.mono (unhide HKN _) ?_
          rintro e w6 ⟨rfl, b6⟩
          have HR15c := hide ((unhide HX15).below b6 (unhide HX15).lt)
          have HE16c := hide (((unhide HX16).below b6 (unhide HX16).lt).arr (unhide HVA))
          have HBG6 := hide ((unhide HBG).trans (b6.mono (Nat.le_trans (unhide HGL) (unhide HBG).size)))
          clear b6 HKN
          go_wp2_with (refine wpList_store_row rfl 43 _ _ rfl g16 KA rfl rfl 43 VA (unhide HE16c) (by rw [z27, unhide HKS]) (by rw [unhide HKS, unhide HVS]) (unhide HKO) ?_)
          go_roundw
          case rel => exact ⟨k + 1, by omega, by simp, hide ⟨by rw [(unhide HST).1]; exact arr_other (unhide HR15c) (unhide HGG).2.2, by rw [(unhide HST).2]; exact RowAt.of (unhide HKA) (setRow_heap _ _ _ _ _ _ (unhide HE16c)), Below.setRow (unhide HBG6) _ _ (unhide HGG).2.1⟩⟩
          case measure => simp [intOf]; omega
      · obtain rfl : k = N := by omega
        have kI : ¬ (k : Int) < (k : Int) := by omega
        obtain ⟨hrow, hrow2, hbel⟩ := unhide HI
        have BW4 : Below w4.heap.size w4 wr := by
          have h1 := unhide HBL
          have h2 := unhide HH
          exact h1.trans (h2 ▸ hbel)
        have HBW := hide (bcall (unhide HB4) BW4)
        obtain ⟨⟨l1, l8⟩, m1, m8⟩ := unhide HUP k
        rw [(unhide HUN).1] at hrow l1
        rw [(unhide HUN).2] at hrow2 m1
        have hq1 := eq_sums (waL f S Q) old l1 (unhide HHO)
        have hq2 := eq_sums (upL f S Q) R m1 (unhide HHR)
        rw [(unhide HRR).1] at hq1
        rw [(unhide HRR).2] at hq2
        obtain ⟨UA, hUA⟩ : ∃ A, (bv (waL f S Q)).toArray = A := ⟨_, rfl⟩
        obtain ⟨VA, hVA⟩ : ∃ A, (bv (upL f S Q)).toArray = A := ⟨_, rfl⟩
        rw [hUA, unhide HOA] at hq1
        rw [hVA, unhide HRA] at hq2
        have HUS : Hid (UA.size = 32) := hide (by rw [← hUA, List.size_toArray, bv_len, l1])
        have HVS : Hid (VA.size = 32) := hide (by rw [← hVA, List.size_toArray, bv_len, m1])
        have HE15 := hide (hrow.arr hUA)
        have HE16 := hide (hrow2.arr hVA)
        have HE7 := hide (((unhide HR74).below BW4 (unhide HR74).lt).arr (unhide HOA))
        have HE8 := hide (((unhide HR84).below BW4 (unhide HR84).lt).arr (unhide HRA))
        clear hUA hVA l1 l8 m1 m8 hrow hrow2 hbel BW4 hlt HI
        cases r1 with
        | false =>
          go_wp2_with (first
            | (refine wpList_load_row rfl 43 _ rfl g15 rfl 43 UA (0, 0) _ (unhide HE15) Tryd.underlying43 rfl (by rw [z27, unhide HUS]) ?_)
            | (refine wpList_load_row rfl 43 _ rfl w.heap.size rfl 43 OA (0, 0) _ (unhide HE7) Tryd.underlying43 rfl (by rw [z27, unhide HOS]) ?_)
            | (refine wpList_load_if rfl 43 _ rfl g16 rfl 43 VA (0, 0) _ (unhide HE16) Tryd.underlying43 rfl (by rw [z27, unhide HVS]) ?_)
            | (refine wpList_load_if rfl 43 _ rfl (w.heap.size + 1) rfl 43 RA (0, 0) _ (unhide HE8) Tryd.underlying43 rfl (by rw [z27, unhide HRS]) ?_))
          go_ret
          exact ⟨rfl, unhide HBW⟩
        | true =>
          cases r2 with
          | false =>
            go_wp2_with (first
              | (refine wpList_load_row rfl 43 _ rfl g15 rfl 43 UA (0, 0) _ (unhide HE15) Tryd.underlying43 rfl (by rw [z27, unhide HUS]) ?_)
              | (refine wpList_load_row rfl 43 _ rfl w.heap.size rfl 43 OA (0, 0) _ (unhide HE7) Tryd.underlying43 rfl (by rw [z27, unhide HOS]) ?_)
              | (refine wpList_load_if rfl 43 _ rfl g16 rfl 43 VA (0, 0) _ (unhide HE16) Tryd.underlying43 rfl (by rw [z27, unhide HVS]) ?_)
              | (refine wpList_load_if rfl 43 _ rfl (w.heap.size + 1) rfl 43 RA (0, 0) _ (unhide HE8) Tryd.underlying43 rfl (by rw [z27, unhide HRS]) ?_))
            go_ret
            exact ⟨rfl, unhide HBW⟩
          | true =>
            go_wp2_with (first
              | (refine wpList_load_row rfl 43 _ rfl g15 rfl 43 UA (0, 0) _ (unhide HE15) Tryd.underlying43 rfl (by rw [z27, unhide HUS]) ?_)
              | (refine wpList_load_row rfl 43 _ rfl w.heap.size rfl 43 OA (0, 0) _ (unhide HE7) Tryd.underlying43 rfl (by rw [z27, unhide HOS]) ?_)
              | (refine wpList_load_if rfl 43 _ rfl g16 rfl 43 VA (0, 0) _ (unhide HE16) Tryd.underlying43 rfl (by rw [z27, unhide HVS]) ?_)
              | (refine wpList_load_if rfl 43 _ rfl (w.heap.size + 1) rfl 43 RA (0, 0) _ (unhide HE8) Tryd.underlying43 rfl (by rw [z27, unhide HRS]) ?_))
            go_ret
            exact ⟨rfl, unhide HBW⟩
set_option maxRecDepth 100000 in
set_option maxHeartbeats 16000000 in
theorem rgrows_first (m n : Nat) (old R f : List Nat) (Q : List (List Nat)) (vp : Value) (w : World) (hm1 : 1 ≤ m) (hmn : m ≤ n) (hn : n ≤ 1099511627776) (ho : old.length = 32) (ho8 : U8 old) (hR : R.length = 32) (hP : PS w vp (f :: Q)) (hw : (wayL m n true).2 = false) :
    Calls Tryd.prog 39 #[.int .i64 (m : Int), .int .i64 (n : Int), .agg (bv old).toArray, .agg (bv R).toArray, vp] w fun e w' => e = .returned (.int .i64 (growsE m n old R (f :: Q))) ∧ Below w.heap.size w w' := by
  rw [growsE_first hm1 hmn hw]
  have hz := zero27
  generalize hZ : (bv (List.replicate 32 0)).toArray = Z at hz
  have HZS : Hid (Z.size = 32) := hide (by rw [← hZ, List.size_toArray, bv_len, List.length_replicate])
  obtain ⟨OL, hOL⟩ : ∃ X, bv old = X := ⟨_, rfl⟩
  obtain ⟨OA, hOA⟩ : ∃ A, OL.toArray = A := ⟨_, rfl⟩
  obtain ⟨RA, hRA⟩ : ∃ A, (bv R).toArray = A := ⟨_, rfl⟩
  have HOS : Hid (OA.size = 32) := hide (by rw [← hOA, List.size_toArray, ← hOL, bv_len, ho])
  have HOO : Hid (OA.all (·.oneCell') = true) := hide (hOA ▸ hOL ▸ one_bv old)
  have HRS : Hid (RA.size = 32) := hide (by rw [← hRA, List.size_toArray, bv_len, hR])
  have b0 : Below w.heap.size w (w.alloc (.cells OA 43)) := (Below.refl _ _).alloc (Nat.le_refl _) _
  have bx : Below (w.alloc (.cells OA 43)).heap.size (w.alloc (.cells OA 43)) ((w.alloc (.cells OA 43)).alloc (.cells RA 43)) := (Below.refl _ _).alloc (Nat.le_refl _) _
  have HB1 : Hid (Below w.heap.size w ((w.alloc (.cells OA 43)).alloc (.cells RA 43))) := hide (b0.alloc b0.size _)
  have HR7 : Hid (RowAt ((w.alloc (.cells OA 43)).alloc (.cells RA 43)) w.heap.size 43 (bv old)) := hide (by
    have r0 : RowAt (w.alloc (.cells OA 43)) w.heap.size 43 (bv old) := hOA ▸ hOL ▸ RowAt.new w 43 (bv old)
    exact r0.below bx r0.lt)
  have HR8 : Hid (RowAt ((w.alloc (.cells OA 43)).alloc (.cells RA 43)) (w.heap.size + 1) 43 (bv R)) := hide (by
    have := RowAt.new (w.alloc (.cells OA 43)) 43 (bv R)
    rw [hRA, size_alloc] at this
    exact this)
  have HWY := hide (p := ∀ W, Below w.heap.size w W → _) (fun W (hW : Below w.heap.size w W) => rway_any n m true W hm1 hmn hn)
  rw [hw] at HWY
  have s40 := way_40 n m true hn
  obtain ⟨S, hS⟩ : ∃ S, (wayL m n true).1 = S := ⟨_, rfl⟩
  rw [hS] at HWY s40 ⊢
  have HOA : Hid ((bv old).toArray = OA) := hide (by rw [hOL, hOA])
  have HRA := hide hRA
  have HHO := hide ho
  have HHR := hide hR
  have c1 : ¬ (m : Int) < 1 := by omega
  have c2 : ¬ (n : Int) < (m : Int) := by omega
  have c3 : ¬ (1099511627776 : Int) < (n : Int) := by omega
  obtain ⟨pa, pc, rfl, hpc, hpn, hp32, hps⟩ := id hP
  have hf1 : f.length = 32 ∧ U8 f := hp32 f (List.mem_cons_self ..)
  rcases hps with hps | ⟨g0, o0, rfl, hps⟩
  · cases hps
  have hPQ := PS.tail hP
  have hLF := fun W (hW : Below w.heap.size w W) => (hps.call hW).load (k := 0) rfl rfl
  rw [Nat.zero_mul, Nat.add_zero] at hLF
  obtain ⟨pl, hpl⟩ : ∃ m, (f :: Q).length = m := ⟨_, rfl⟩
  have hQl : Q.length = pl - 1 := by rw [← hpl, List.length_cons, Nat.add_sub_cancel]
  have pl1 : 1 ≤ pl := by rw [← hpl, List.length_cons]; omega
  rw [hpl] at hPQ hpc hpn ⊢
  have HSL := hide (fun W => slice_one g0 o0 pl pc W pl1 hpc)
  obtain ⟨ra, hra⟩ : ∃ r, (if pc = 1 then some (⟨g0, o0, none⟩ : Addr) else some ⟨g0, o0 + 32, none⟩) = r := ⟨_, rfl⟩
  rw [hra] at hPQ HSL
  rw [← hQl] at hPQ HSL
  obtain ⟨rc, hrc0⟩ : ∃ r, pc - 1 = r := ⟨_, rfl⟩
  rw [hrc0] at hPQ HSL
  obtain ⟨FL, hFL⟩ : ∃ X, bv f = X := ⟨_, rfl⟩
  obtain ⟨FA, hFA⟩ : ∃ A, FL.toArray = A := ⟨_, rfl⟩
  rw [hFL, hFA] at hLF
  have HLF := hide hLF
  have pnz : ((pl : Int) == 0) = false := beq_eq_false_iff_ne.2 (by omega)
  have pnz2 : ¬ (pl : Int) = 0 := by omega
  have pI : (0 : Int) < (pl : Int) := by omega
  have pI1 : (1 : Int) ≤ (pl : Int) := by omega
  have hrn : Q.length ≤ 1000000 := by omega
  have hiF : (Tryd.prog.info? 43).map (·.size) = some FL.length := hFL ▸ size43 hf1.1
  have HFS : Hid (FA.size = 32) := hide (by rw [← hFA, List.size_toArray, ← hFL, bv_len, hf1.1])
  have HFO : Hid (FA.all (·.oneCell') = true) := hide (hFA ▸ hFL ▸ one_bv f)
  have HUP : Hid (∀ k, ((waL f (S.take k) (Q.take k)).length = 32 ∧ U8 (waL f (S.take k) (Q.take k))) ∧ (upL f (S.take k) (Q.take k)).length = 32 ∧ U8 (upL f (S.take k) (Q.take k))) := hide (fun k => ⟨waL_ok hf1 _ _, upL_ok hf1.1 hf1.2 _ _⟩)
  have HPW := hide hPQ
  obtain ⟨rn, hrn'⟩ : ∃ m, Q.length = m := ⟨_, rfl⟩
  rw [hrn'] at HSL ⊢
  rw [hOL, hOA, hRA]
  by_cases hlen : rn = S.length
  rotate_left
  · rw [if_neg (fun h => hlen h.1)]
    obtain ⟨sn, hsn'⟩ : ∃ m, S.length = m := ⟨_, rfl⟩
    rw [hsn'] at hlen
    have HSN := hide hsn'
    have q1 : ((rn : Int) != (sn : Int)) = true := bne_iff_ne.2 (by omega)
    have q2 : ((rn : Int) == (sn : Int)) = false := beq_eq_false_iff_ne.2 (by omega)
    have q3 : ¬ rn = sn := by omega
    have q4 : ¬ (rn : Int) = (sn : Int) := by omega
    clear hZ hOL hOA hRA b0 bx hm1 hmn hn ho ho8 hR hP hS hw hpc hpn hp32 hps hPQ hLF hpl hQl pl1 hra hrc0 hrn hlen s40 hsn' hrn'
    go_enter Tryd.func39, Tryd.ntmps39
    go_wp2_with fail
    generalize (w.alloc (.cells OA 43)).alloc (.cells RA 43) = w1 at *
    refine Calls.mono (unhide HWY _ (unhide HB1)) ?_
    rintro e w2 ⟨sv, rfl, b2, S2⟩
    have HB2 := hide (bcall (unhide HB1) b2)
    have HR72 := hide ((unhide HR7).below b2 (unhide HR7).lt)
    have HR82 := hide ((unhide HR8).below b2 (unhide HR8).lt)
    obtain ⟨sa, sc, hsv, _⟩ := own_shape S2
    rw [unhide HSN] at hsv
    subst hsv
    have HS2 := hide S2
    have HE72 := hide ((unhide HR72).arr (unhide HOA))
    have b2a : Below w2.heap.size w2 (w2.alloc (.cells OA 43)) := (Below.refl _ _).alloc (Nat.le_refl _) _
    have HB3 := hide (bcall (unhide HB2) b2a)
    have HR73 := hide ((unhide HR72).below b2a (unhide HR72).lt)
    have HR83 := hide ((unhide HR82).below b2a (unhide HR82).lt)
    have HS3 := hide (Bls.call (unhide HS2) b2a)
    have HN3 : Hid ((w2.alloc (.cells OA 43)).heap[w2.heap.size]? = some (.cells OA 43 (0, 0))) := hide (heap_alloc_new w2 _)
    clear b2 b2a S2 HWY
    have HLF3 := hide (unhide HLF _ (unhide HB3))
    have HSL3 := hide (unhide HSL ((w2.alloc (.cells OA 43)).setRow w2.heap.size FA))
    go_wp2_with (first
      | (refine wpList_load_row rfl 43 _ rfl w.heap.size rfl 43 OA (0, 0) _ (unhide HE72) Tryd.underlying43 rfl (by rw [z27, unhide HOS]) ?_)
      | (refine wpList_store_new rfl 43 _ _ rfl OA rfl rfl (by rw [z27, unhide HOS]) (by rw [unhide HOS, unhide HZS]) (unhide HOO) ?_)
      | (refine wpList_load_run rfl 43 _ rfl ⟨g0, o0, none⟩ rfl (.agg FA) (unhide HLF3) ?_)
      | (refine wpList_store_row rfl 43 _ _ rfl w2.heap.size FA rfl rfl 43 OA (unhide HN3) (by rw [z27, unhide HFS]) (by rw [unhide HFS, unhide HOS]) (unhide HFO) ?_)
      | (refine wpList_slice1' rfl 54 _ _ rfl _ _ rfl rfl _ (unhide HSL3) ?_))
    go_ret
    exact ⟨rfl, bcall (unhide HB2) (Below.setRow ((Below.refl _ _).alloc (Nat.le_refl _) _) _ _ (Nat.le_refl _))⟩
  obtain ⟨N, hN⟩ : ∃ N, N = rn := ⟨_, rfl⟩
  have hSN : S.length = N := by omega
  have hQN : Q.length = N := by omega
  have HNN := hide (And.intro hQN hSN)
  have N40 : (N : Int) ≤ 40 := by omega
  have HU0 : Hid (waL f (S.take 0) (Q.take 0) = f ∧ upL f (S.take 0) (Q.take 0) = f) := hide ⟨by simp [waL], by simp [upL]⟩
  have HUN : Hid (waL f (S.take N) (Q.take N) = waL f S Q ∧ upL f (S.take N) (Q.take N) = upL f S Q) := hide (by rw [List.take_of_length_le (by omega), List.take_of_length_le (by omega)]; exact ⟨rfl, rfl⟩)
  obtain ⟨r1, hr1⟩ : ∃ r, decide (waL f S Q = old) = r := ⟨_, rfl⟩
  obtain ⟨r2, hr2⟩ : ∃ r, decide (upL f S Q = R) = r := ⟨_, rfl⟩
  have HRR := hide (And.intro hr1 hr2)
  rw [show (if rn = S.length ∧ waL f S Q = old ∧ upL f S Q = R then (0 : Int) else 140) = if (r1 && r2) = true then 0 else 140 by subst hr1 hr2; simp [hlen]]
  subst hN
  clear hZ hOL hOA hRA b0 bx hm1 hmn hn ho ho8 hR hP hS hw hpc hpn hp32 hps hPQ hLF hpl hQl pl1 hra hrc0 hrn hlen s40 hrn' hSN hQN hr1 hr2
  go_enter Tryd.func39, Tryd.ntmps39
  go_wp2_with fail
  generalize (w.alloc (.cells OA 43)).alloc (.cells RA 43) = w1 at *
  refine Calls.mono (unhide HWY _ (unhide HB1)) ?_
  rintro e w2 ⟨sv, rfl, b2, S2⟩
  have HB2 := hide (bcall (unhide HB1) b2)
  have HR72 := hide ((unhide HR7).below b2 (unhide HR7).lt)
  have HR82 := hide ((unhide HR8).below b2 (unhide HR8).lt)
  obtain ⟨sa, sc, hsv, _⟩ := own_shape S2
  rw [(unhide HNN).2] at hsv
  subst hsv
  have HS2 := hide S2
  have HE72 := hide ((unhide HR72).arr (unhide HOA))
  have b2a : Below w2.heap.size w2 (w2.alloc (.cells OA 43)) := (Below.refl _ _).alloc (Nat.le_refl _) _
  have HB3 := hide (bcall (unhide HB2) b2a)
  have HR73 := hide ((unhide HR72).below b2a (unhide HR72).lt)
  have HR83 := hide ((unhide HR82).below b2a (unhide HR82).lt)
  have HS3 := hide (Bls.call (unhide HS2) b2a)
  have HN3 : Hid ((w2.alloc (.cells OA 43)).heap[w2.heap.size]? = some (.cells OA 43 (0, 0))) := hide (heap_alloc_new w2 _)
  clear b2 b2a S2 HWY
  have HLF3 := hide (unhide HLF _ (unhide HB3))
  have HSL3 := hide (unhide HSL ((w2.alloc (.cells OA 43)).setRow w2.heap.size FA))
  go_wp2_with (first
    | (refine wpList_load_row rfl 43 _ rfl w.heap.size rfl 43 OA (0, 0) _ (unhide HE72) Tryd.underlying43 rfl (by rw [z27, unhide HOS]) ?_)
    | (refine wpList_store_new rfl 43 _ _ rfl OA rfl rfl (by rw [z27, unhide HOS]) (by rw [unhide HOS, unhide HZS]) (unhide HOO) ?_)
    | (refine wpList_load_run rfl 43 _ rfl ⟨g0, o0, none⟩ rfl (.agg FA) (unhide HLF3) ?_)
    | (refine wpList_store_row rfl 43 _ _ rfl w2.heap.size FA rfl rfl 43 OA (unhide HN3) (by rw [z27, unhide HFS]) (by rw [unhide HFS, unhide HOS]) (unhide HFO) ?_)
    | (refine wpList_slice1' rfl 54 _ _ rfl _ _ rfl rfl _ (unhide HSL3) ?_))
  have HR13 : Hid (RowAt ((w2.alloc (.cells OA 43)).setRow w2.heap.size FA) w2.heap.size 43 FL) := hide (by show ((w2.alloc (.cells OA 43)).setRow w2.heap.size FA).heap[w2.heap.size]? = some (.cells FL.toArray 43 (0, 0)); rw [hFA]; exact setRow_heap _ _ _ _ _ _ (unhide HN3))
  have b4 : Below w2.heap.size w2 ((w2.alloc (.cells OA 43)).setRow w2.heap.size FA) := Below.setRow ((Below.refl _ _).alloc (Nat.le_refl _) _) _ _ (Nat.le_refl _)
  have HB4 := hide (bcall (unhide HB2) b4)
  have HR74 := hide ((unhide HR72).below b4 (unhide HR72).lt)
  have HR84 := hide ((unhide HR82).below b4 (unhide HR82).lt)
  have HS4 := hide (Bls.call (unhide HS2) b4)
  have HPQ := hide ((unhide HPW).call (unhide HB4))
  clear b4
  obtain ⟨g13, hg13⟩ : ∃ g, w2.heap.size = g := ⟨_, rfl⟩
  generalize (w2.alloc (.cells OA 43)).setRow w2.heap.size FA = w4 at *
  rw [hg13] at HR13 ⊢
  clear hg13
  refine wp_region_held_drew (S := fun w' => w'.rangeAt g13 0 FL) (by kernel_rfl) (show w4.drew.rangeAt g13 0 FL from (World.rangeAt_drew _ _ _ _).2 (unhide HR13).range) (fun hHeld => ?_)
  refine wpAnyH_take (i := 0) (oi := { dst := some 53, op := Op.load 43 (Operand.tmp 13), type := 43, pos := "ref.go:139", after := #[], guard := none }) (v := .agg FL.toArray) rfl (by kernel_rfl) (by kernel_rfl) (by kernel_rfl) (fun _ _ _ h => h)
    (yieldsIf_load_mid (by rfl) _ _ rfl g13 0 rfl FL _ (fun w h => h) Tryd.underlying43 rfl hiF) hHeld ?_
  try simp only [Act.put, List.setIfInBounds_toArray, List.set_cons_zero, List.set_cons_succ]
  refine wpAnyH_take (i := 1) (oi := { dst := some 54, op := Op.load 43 (Operand.tmp 13), type := 43, pos := "ref.go:139", after := #[{ on := 4, ground := Ground.gcOnly Departure.lateStores }], guard := none }) (v := .agg FL.toArray) rfl (by kernel_rfl) (by kernel_rfl) (by kernel_rfl) (fun _ _ _ h => h)
    (yieldsIf_load_mid (by rfl) _ _ rfl g13 0 rfl FL _ (fun w h => h) Tryd.underlying43 rfl hiF) hHeld ?_
  try simp only [Act.put, List.setIfInBounds_toArray, List.set_cons_zero, List.set_cons_succ]
  rw [hFA]
  refine wpAnyH_ready (rs := [2, 3]) (by kernel_rfl) (by simp) ?_
  refine AllReadyH.cons (o := { dst := some 15, op := Op.alloc 43, type := 0, pos := "ref.go:139", after := #[], guard := none }) rfl (fun K hK => ?_) (AllReadyH.cons (o := { dst := some 16, op := Op.alloc 43, type := 0, pos := "ref.go:139", after := #[], guard := none }) rfl (fun K hK => ?_) AllReadyH.nil)
  · go_simp
    refine hK.out _ _ ?_ (fun hHeld2 => ?_)
    · exact World.rangeAt_alloc hHeld _
    clear hK K
    try simp only [Act.put, List.setIfInBounds_toArray, List.set_cons_zero, List.set_cons_succ]
    refine wpAnyH_ready (rs := [3]) (by kernel_rfl) (by simp) ?_
    refine AllReadyH.cons (o := { dst := some 16, op := Op.alloc 43, type := 0, pos := "ref.go:139", after := #[], guard := none }) rfl (fun K hK => ?_) AllReadyH.nil
    go_simp
    refine hK.out _ _ ?_ (fun hHeld3 => ?_)
    · exact World.rangeAt_alloc hHeld2 _
    clear hK K
    try simp only [Act.put, List.setIfInBounds_toArray, List.set_cons_zero, List.set_cons_succ]
    have he1 : (((w4.alloc (.cells Z 43)).alloc (.cells Z 43)).drew).heap[w4.heap.size]? = some (.cells Z 43 (0, 0)) := by
      have bx : Below (w4.alloc (.cells Z 43)).heap.size (w4.alloc (.cells Z 43)) ((w4.alloc (.cells Z 43)).alloc (.cells Z 43)) := (Below.refl _ _).alloc (Nat.le_refl _) _
      exact (bx.block _ (by rw [size_alloc]; exact Nat.lt_succ_self _)).trans (heap_alloc_new w4 _)
    have he2 : (((w4.alloc (.cells Z 43)).alloc (.cells Z 43)).drew).heap[w4.heap.size + 1]? = some (.cells Z 43 (0, 0)) := by
      have := heap_alloc_new (w4.alloc (.cells Z 43)) (.cells Z 43)
      rw [size_alloc] at this
      exact this
    have HE15a : Hid ((((w4.alloc (.cells Z 43)).alloc (.cells Z 43)).drew).heap[w4.heap.size]? = some (.cells Z 43 (0, 0))) := hide he1
    have HE16a : Hid (((((w4.alloc (.cells Z 43)).alloc (.cells Z 43)).drew).setRow w4.heap.size FA).heap[(w4.heap.size + 1)]? = some (.cells Z 43 (0, 0))) := hide (arr_other he2 (by omega))
    have HBa : Hid (Below w4.heap.size w4 (((w4.alloc (.cells Z 43)).alloc (.cells Z 43)).drew)) := hide (by
      exact (bal (bal (Below.refl _ _) _) _).drew)
    have HG13 := hide (unhide HR13).lt
    clear he1 he2
    refine wpAnyH_ready (rs := [4]) (by kernel_rfl) (by simp) ?_
    refine AllReadyH.cons (o := { dst := none, op := Op.store 43 (Operand.tmp 15) (Operand.tmp 53), type := 0, pos := "ref.go:139", after := #[{ on := 2, ground := Ground.data }, { on := 0, ground := Ground.data }, { on := 0, ground := Ground.phase }, { on := 1, ground := Ground.textOnly Departure.lateStores }, { on := 2, ground := Ground.phase }, { on := 3, ground := Ground.phase }], guard := none }) rfl (fun K hK => ?_) AllReadyH.nil
    rw [if_pos (by rfl)]
    refine wp_store_row 43 _ _ rfl w4.heap.size FA rfl rfl 43 Z (unhide HE15a) (by rw [z27, unhide HFS]) (by rw [unhide HFS, unhide HZS]) (unhide HFO) ?_
    refine hK.out _ _ (rangeAt_setRow hHeld3 (by have := unhide HG13; omega) _) (fun hHeld4 => ?_)
    clear hK K
    try simp only [Act.put, List.setIfInBounds_toArray, List.set_cons_zero, List.set_cons_succ]
    refine wpAnyH_ready (rs := [5]) (by kernel_rfl) (by simp) ?_
    refine AllReadyH.cons (o := { dst := none, op := Op.store 43 (Operand.tmp 16) (Operand.tmp 54), type := 0, pos := "ref.go:139", after := #[{ on := 3, ground := Ground.data }, { on := 1, ground := Ground.data }, { on := 4, ground := Ground.chain }, { on := 0, ground := Ground.phase }, { on := 1, ground := Ground.phase }, { on := 2, ground := Ground.phase }, { on := 3, ground := Ground.phase }, { on := 4, ground := Ground.phase }], guard := none }) rfl (fun K hK => ?_) AllReadyH.nil
    rw [if_pos (by rfl)]
    refine wp_store_row 43 _ _ rfl (w4.heap.size + 1) FA rfl rfl 43 Z (unhide HE16a) (by rw [z27, unhide HFS]) (by rw [unhide HFS, unhide HZS]) (unhide HFO) ?_
    refine hK.out _ _ (rangeAt_setRow hHeld4 (by have := unhide HG13; omega) _) (fun hHeld5 => ?_)
    clear hK K
    try simp only [Act.put, List.setIfInBounds_toArray, List.set_cons_zero, List.set_cons_succ]
    refine wpAnyH_done (by kernel_rfl) ?_ _
    have HE15 : Hid ((((((w4.alloc (.cells Z 43)).alloc (.cells Z 43)).drew).setRow w4.heap.size FA).setRow (w4.heap.size + 1) FA).heap[w4.heap.size]? = some (.cells FA 43 (0, 0))) := hide (arr_other (setRow_heap _ _ _ _ _ _ (unhide HE15a)) (by omega))
    have HE16 : Hid ((((((w4.alloc (.cells Z 43)).alloc (.cells Z 43)).drew).setRow w4.heap.size FA).setRow (w4.heap.size + 1) FA).heap[(w4.heap.size + 1)]? = some (.cells FA 43 (0, 0))) := hide (setRow_heap _ _ _ _ _ _ (unhide HE16a))
    have HBL : Hid (Below w4.heap.size w4 (((((w4.alloc (.cells Z 43)).alloc (.cells Z 43)).drew).setRow w4.heap.size FA).setRow (w4.heap.size + 1) FA)) := hide (Below.setRow (Below.setRow (unhide HBa) _ _ (by omega)) _ _ (by omega))
    have HGG : Hid (w4.heap.size ≤ w4.heap.size ∧ w4.heap.size ≤ (w4.heap.size + 1) ∧ w4.heap.size ≠ (w4.heap.size + 1)) := hide (by omega)
    clear HE15a HE16a HBa HG13 hHeld hHeld2 hHeld3 hHeld4 hHeld5
    generalize ((((w4.alloc (.cells Z 43)).alloc (.cells Z 43)).drew).setRow w4.heap.size FA).setRow (w4.heap.size + 1) FA = wL at *
    obtain ⟨H, hH⟩ : ∃ g, w4.heap.size = g := ⟨_, rfl⟩
    obtain ⟨g15, h15⟩ : ∃ g, w4.heap.size = g := ⟨_, rfl⟩
    obtain ⟨g16, h16⟩ : ∃ g, (w4.heap.size + 1) = g := ⟨_, rfl⟩
    have HGG : Hid (H ≤ g15 ∧ H ≤ g16 ∧ g15 ≠ g16) := hide (by omega)
    rw [h16] at HE16 ⊢
    rw [h15] at HE15 ⊢
    have HH := hide hH
    have HR15 : Hid (RowAt wL g15 43 (bv f)) := hide (by show wL.heap[g15]? = some (.cells (bv f).toArray 43 (0, 0)); rw [hFL, hFA]; exact unhide HE15)
    have HR16 : Hid (RowAt wL g16 43 (bv f)) := hide (by show wL.heap[g16]? = some (.cells (bv f).toArray 43 (0, 0)); rw [hFL, hFA]; exact unhide HE16)
    clear h15 h16 hH
    clear HE15 HE16
    go_wp2_with fail
    go_loopw [57] (fun s wr => ∃ k : Nat, k ≤ N ∧ s = .int .i64 (k : Int) ∧ Hid (RowAt wr g15 43 (bv (waL f (S.take k) (Q.take k))) ∧ RowAt wr g16 43 (bv (upL f (S.take k) (Q.take k))) ∧ Below H wL wr)) (fun s _ => (N - intOf s).toNat)
    case atStart => exact ⟨0, by omega, by simp, hide ⟨by rw [(unhide HU0).1]; exact unhide HR15, by rw [(unhide HU0).2]; exact unhide HR16, Below.refl _ _⟩⟩
    case round =>
      obtain ⟨k, hk, rfl, HI⟩ := hrel
      have HGL : Hid (H ≤ wL.heap.size) := hide (by have := (unhide HR15).lt; have := (unhide HGG).1; omega)
      by_cases hlt : k < N
      · obtain ⟨hlP, hlS⟩ := unhide HNN
        obtain ⟨hrow, hrow2, hbel⟩ := unhide HI
        have BW4 : Below w4.heap.size w4 wr := by
          have h1 := unhide HBL
          have h2 := unhide HH
          exact h1.trans (h2 ▸ hbel)
        obtain ⟨ra', rc', hre, _, _, hp32, hps⟩ := (unhide HPQ).call BW4
        rw [hlP] at hre
        obtain ⟨rfl, rfl⟩ : ra = ra' ∧ rc = rc' := by simpa using hre
        rcases hps with hps | ⟨g, o, rfl, hps⟩
        · rw [hps] at hlP; simp at hlP; omega
        obtain ⟨x, hx⟩ : ∃ x, Q[k]? = some x := ⟨_, List.getElem?_eq_getElem (by omega)⟩
        obtain ⟨b, hb⟩ : ∃ x, S[k]? = some x := ⟨_, List.getElem?_eq_getElem (by omega)⟩
        obtain ⟨x1, x8⟩ := hp32 x (List.mem_of_getElem? hx)
        have HST := hide (And.intro (waL_take (s := f) hb hx) (upL_take (s := f) hb hx))
        obtain ⟨⟨l1, l8⟩, m1, m8⟩ := unhide HUP k
        obtain ⟨U, hU⟩ : ∃ U, waL f (S.take k) (Q.take k) = U := ⟨_, rfl⟩
        obtain ⟨V, hV⟩ : ∃ U, upL f (S.take k) (Q.take k) = U := ⟨_, rfl⟩
        rw [hU] at hrow HST l1 l8
        rw [hV] at hrow2 HST m1 m8
        have hS4 := (unhide HS4).call BW4
        obtain ⟨sg, sc', hsg, _⟩ := own_some hS4 (by omega)
        have hsg' := hsg
        rw [hlS] at hsg'
        obtain ⟨rfl, rfl⟩ : sa = some ⟨sg, 0, none⟩ ∧ sc = sc' := by simpa using hsg'
        have cb : wr.cell? ⟨sg, k, none⟩ = some (.bool b) := Bls.at (hlS ▸ hS4) hb
        obtain ⟨XA, hXA⟩ : ∃ A, (bv x).toArray = A := ⟨_, rfl⟩
        obtain ⟨UA, hUA⟩ : ∃ A, (bv U).toArray = A := ⟨_, rfl⟩
        obtain ⟨VA, hVA⟩ : ∃ A, (bv V).toArray = A := ⟨_, rfl⟩
        have HLX := hide (hps.load hx hXA)
        have HXS : Hid (XA.size = 32) := hide (by rw [← hXA, List.size_toArray, bv_len, x1])
        have HXO : Hid (XA.all (·.oneCell') = true) := hide (hXA ▸ one_bv _)
        have HUS : Hid (UA.size = 32) := hide (by rw [← hUA, List.size_toArray, bv_len, l1])
        have HVS : Hid (VA.size = 32) := hide (by rw [← hVA, List.size_toArray, bv_len, m1])
        have b1 : Below wr.heap.size wr (wr.alloc (.cells XA 43)) := (Below.refl _ _).alloc (Nat.le_refl _) _
        have cb1 : (wr.alloc (.cells XA 43)).cell? ⟨sg, k, none⟩ = some (.bool b) := (World.cell?_of_block (b1.block _ (World.block_lt_of_cell? _ _ cb))).trans cb
        have HX18 : Hid (RowAt (wr.alloc (.cells XA 43)) wr.heap.size 43 (bv x)) := hide (hXA ▸ RowAt.new wr 43 (bv x))
        have HX15 := hide (hrow.below b1 hrow.lt)
        have HX16 := hide (hrow2.below b1 hrow2.lt)
        have HBG := hide (hbel.alloc (Nat.le_trans (unhide HGL) hbel.size) (.cells XA 43))
        have HXA := hide hXA
        have HUA := hide hUA
        have HVA := hide hVA
        have kI : (k : Int) < (N : Int) := by omega
        have HE18 := hide ((unhide HX18).arr hXA)
        have HE15 := hide ((unhide HX15).arr hUA)
        have HE16 := hide ((unhide HX16).arr hVA)
        have HLT : Hid (g15 < wr.heap.size ∧ g16 < wr.heap.size) := hide ⟨hrow.lt, hrow2.lt⟩
        cases b with
        | true =>
          have HKN := hide (fun W => rknot_any x U W x1 l1 x8 l8)
          have HKM := hide (fun W => rknot_any x V W x1 m1 x8 m8)
          have hups : upS V true x = knotL x V := rfl
          have hwas : waS U true x = knotL x U := rfl
          rw [hups, hwas] at HST
          obtain ⟨KD, hKD⟩ : ∃ K, knotL x U = K := ⟨_, rfl⟩
          obtain ⟨MD, hMD⟩ : ∃ K, knotL x V = K := ⟨_, rfl⟩
          rw [hKD] at HKN HST
          rw [hMD] at HKM HST
          have HKL : Hid (KD.length = 32) := hide (by rw [← hKD, knotL_len])
          have HML : Hid (MD.length = 32) := hide (by rw [← hMD, knotL_len])
          obtain ⟨KA, hKA⟩ : ∃ A, (bv KD).toArray = A := ⟨_, rfl⟩
          obtain ⟨MA, hMA⟩ : ∃ A, (bv MD).toArray = A := ⟨_, rfl⟩
          rw [hKA, hXA, hUA] at HKN
          rw [hMA, hXA, hVA] at HKM
          have HKS : Hid (KA.size = 32) := hide (by rw [← hKA, List.size_toArray, bv_len, unhide HKL])
          have HMS : Hid (MA.size = 32) := hide (by rw [← hMA, List.size_toArray, bv_len, unhide HML])
          have HKO : Hid (KA.all (·.oneCell') = true) := hide (hKA ▸ one_bv _)
          have HMO : Hid (MA.all (·.oneCell') = true) := hide (hMA ▸ one_bv _)
          have HKA := hide hKA
          have HMA := hide hMA
          clear hKA hKD hMA hMD hups hwas hXA hUA hVA hU hV x1 x8 l1 l8 m1 m8 hx hb hps hp32 hlP hlS hrow hrow2 hbel b1 cb HI hsg hsg' hre BW4 hS4
          go_wp2_with (first
            | (refine wpList_load_run rfl 43 _ rfl ⟨g, o + k * 32, none⟩ rfl (.agg XA) (unhide HLX) ?_)
            | (refine wpList_store_new rfl 43 _ _ rfl XA rfl rfl (by rw [z27, unhide HXS]) (by rw [unhide HXS, unhide HZS]) (unhide HXO) ?_)
            | (refine wpList_load_row rfl 43 _ rfl wr.heap.size rfl 43 XA (0, 0) _ (unhide HE18) Tryd.underlying43 rfl (by rw [z27, unhide HXS]) ?_)
            | (refine wpList_load_row rfl 43 _ rfl g15 rfl 43 UA (0, 0) _ (unhide HE15) Tryd.underlying43 rfl (by rw [z27, unhide HUS]) ?_))
          refine Calls.mono (unhide HKN _) ?_
          rintro e w6 ⟨rfl, b6⟩
          have HE15c := hide (((unhide HX15).below b6 (unhide HX15).lt).arr (unhide HUA))
          have HE16c : Hid ((w6.setRow g15 KA).heap[g16]? = some (.cells VA 43 (0, 0))) := hide (arr_other (((unhide HX16).below b6 (unhide HX16).lt).arr (unhide HVA)) (Ne.symm (unhide HGG).2.2))
          have HE18c : Hid ((w6.setRow g15 KA).heap[wr.heap.size]? = some (.cells XA 43 (0, 0))) := hide (arr_other (((unhide HX18).below b6 (unhide HX18).lt).arr (unhide HXA)) (by have := (unhide HLT).1; omega))
          have HBG6 : Hid (Below H wL (w6.setRow g15 KA)) := hide (Below.setRow ((unhide HBG).trans (b6.mono (Nat.le_trans (unhide HGL) (unhide HBG).size))) _ _ (unhide HGG).1)
          clear b6 HKN
          go_wp2_with (first
            | (refine wpList_store_row rfl 43 _ _ rfl g15 KA rfl rfl 43 UA (unhide HE15c) (by rw [z27, unhide HKS]) (by rw [unhide HKS, unhide HUS]) (unhide HKO) ?_)
            | (refine wpList_load_row rfl 43 _ rfl wr.heap.size rfl 43 XA (0, 0) _ (unhide HE18c) Tryd.underlying43 rfl (by rw [z27, unhide HXS]) ?_)
            | (refine wpList_load_row rfl 43 _ rfl g16 rfl 43 VA (0, 0) _ (unhide HE16c) Tryd.underlying43 rfl (by rw [z27, unhide HVS]) ?_))
          have HE15d : Hid ((w6.setRow g15 KA).heap[g15]? = some (.cells KA 43 (0, 0))) := hide (setRow_heap _ _ _ _ _ _ (unhide HE15c))
          generalize w6.setRow g15 KA = w7 at *
          refine Calls.mono (unhide HKM _) ?_
          rintro e w8 ⟨rfl, b8⟩
          have HE16e : Hid (w8.heap[g16]? = some (.cells VA 43 (0, 0))) := hide ((b8.block _ (Array.getElem?_eq_some_iff.1 (unhide HE16c)).1).trans (unhide HE16c))
          have HE15e : Hid (w8.heap[g15]? = some (.cells KA 43 (0, 0))) := hide ((b8.block _ (Array.getElem?_eq_some_iff.1 (unhide HE15d)).1).trans (unhide HE15d))
          have HBG8 : Hid (Below H wL w8) := hide ((unhide HBG6).trans (b8.mono (Nat.le_trans (unhide HGL) (unhide HBG6).size)))
          clear b8 HKM
          go_wp2_with (refine wpList_store_row rfl 43 _ _ rfl g16 MA rfl rfl 43 VA (unhide HE16e) (by rw [z27, unhide HMS]) (by rw [unhide HMS, unhide HVS]) (unhide HMO) ?_)
          go_roundw
          case rel => exact ⟨k + 1, by omega, by simp, hide ⟨by rw [(unhide HST).1]; exact RowAt.of (unhide HKA) (arr_other (unhide HE15e) (unhide HGG).2.2), by rw [(unhide HST).2]; exact RowAt.of (unhide HMA) (setRow_heap _ _ _ _ _ _ (unhide HE16e)), Below.setRow (unhide HBG8) _ _ (unhide HGG).2.1⟩⟩
          case measure => simp [intOf]; omega
        | false =>
          have HKN := hide (fun W => rknot_any V x W m1 x1 m8 x8)
          have hups : upS V false x = knotL V x := rfl
          have hwas : waS U false x = U := rfl
          rw [hups, hwas] at HST
          obtain ⟨KD, hKD⟩ : ∃ K, knotL V x = K := ⟨_, rfl⟩
          rw [hKD] at HKN HST
          have HKL : Hid (KD.length = 32) := hide (by rw [← hKD, knotL_len])
          obtain ⟨KA, hKA⟩ : ∃ A, (bv KD).toArray = A := ⟨_, rfl⟩
          rw [hKA, hXA, hVA] at HKN
          have HKS : Hid (KA.size = 32) := hide (by rw [← hKA, List.size_toArray, bv_len, unhide HKL])
          have HKO : Hid (KA.all (·.oneCell') = true) := hide (hKA ▸ one_bv _)
          have HKA := hide hKA
          clear hKA hKD hups hwas hXA hUA hVA hU hV x1 x8 l1 l8 m1 m8 hx hb hps hp32 hlP hlS hrow hrow2 hbel b1 cb HI hsg hsg' hre BW4 hS4
          go_wp2_with (first
            | (refine wpList_load_run rfl 43 _ rfl ⟨g, o + k * 32, none⟩ rfl (.agg XA) (unhide HLX) ?_)
            | (refine wpList_store_new rfl 43 _ _ rfl XA rfl rfl (by rw [z27, unhide HXS]) (by rw [unhide HXS, unhide HZS]) (unhide HXO) ?_)
            | (refine wpList_load_row rfl 43 _ rfl wr.heap.size rfl 43 XA (0, 0) _ (unhide HE18) Tryd.underlying43 rfl (by rw [z27, unhide HXS]) ?_)
            | (refine wpList_load_row rfl 43 _ rfl g16 rfl 43 VA (0, 0) _ (unhide HE16) Tryd.underlying43 rfl (by rw [z27, unhide HVS]) ?_))
          refine Calls.mono (unhide HKN _) ?_
          rintro e w6 ⟨rfl, b6⟩
          have HR15c := hide ((unhide HX15).below b6 (unhide HX15).lt)
          have HE16c := hide (((unhide HX16).below b6 (unhide HX16).lt).arr (unhide HVA))
          have HBG6 := hide ((unhide HBG).trans (b6.mono (Nat.le_trans (unhide HGL) (unhide HBG).size)))
          clear b6 HKN
          go_wp2_with (refine wpList_store_row rfl 43 _ _ rfl g16 KA rfl rfl 43 VA (unhide HE16c) (by rw [z27, unhide HKS]) (by rw [unhide HKS, unhide HVS]) (unhide HKO) ?_)
          go_roundw
          case rel => exact ⟨k + 1, by omega, by simp, hide ⟨by rw [(unhide HST).1]; exact arr_other (unhide HR15c) (unhide HGG).2.2, by rw [(unhide HST).2]; exact RowAt.of (unhide HKA) (setRow_heap _ _ _ _ _ _ (unhide HE16c)), Below.setRow (unhide HBG6) _ _ (unhide HGG).2.1⟩⟩
          case measure => simp [intOf]; omega
      · obtain rfl : k = N := by omega
        have kI : ¬ (k : Int) < (k : Int) := by omega
        obtain ⟨hrow, hrow2, hbel⟩ := unhide HI
        have BW4 : Below w4.heap.size w4 wr := by
          have h1 := unhide HBL
          have h2 := unhide HH
          exact h1.trans (h2 ▸ hbel)
        have HBW := hide (bcall (unhide HB4) BW4)
        obtain ⟨⟨l1, l8⟩, m1, m8⟩ := unhide HUP k
        rw [(unhide HUN).1] at hrow l1
        rw [(unhide HUN).2] at hrow2 m1
        have hq1 := eq_sums (waL f S Q) old l1 (unhide HHO)
        have hq2 := eq_sums (upL f S Q) R m1 (unhide HHR)
        rw [(unhide HRR).1] at hq1
        rw [(unhide HRR).2] at hq2
        obtain ⟨UA, hUA⟩ : ∃ A, (bv (waL f S Q)).toArray = A := ⟨_, rfl⟩
        obtain ⟨VA, hVA⟩ : ∃ A, (bv (upL f S Q)).toArray = A := ⟨_, rfl⟩
        rw [hUA, unhide HOA] at hq1
        rw [hVA, unhide HRA] at hq2
        have HUS : Hid (UA.size = 32) := hide (by rw [← hUA, List.size_toArray, bv_len, l1])
        have HVS : Hid (VA.size = 32) := hide (by rw [← hVA, List.size_toArray, bv_len, m1])
        have HE15 := hide (hrow.arr hUA)
        have HE16 := hide (hrow2.arr hVA)
        have HE7 := hide (((unhide HR74).below BW4 (unhide HR74).lt).arr (unhide HOA))
        have HE8 := hide (((unhide HR84).below BW4 (unhide HR84).lt).arr (unhide HRA))
        clear hUA hVA l1 l8 m1 m8 hrow hrow2 hbel BW4 hlt HI
        cases r1 with
        | false =>
          go_wp2_with (first
            | (refine wpList_load_row rfl 43 _ rfl g15 rfl 43 UA (0, 0) _ (unhide HE15) Tryd.underlying43 rfl (by rw [z27, unhide HUS]) ?_)
            | (refine wpList_load_row rfl 43 _ rfl w.heap.size rfl 43 OA (0, 0) _ (unhide HE7) Tryd.underlying43 rfl (by rw [z27, unhide HOS]) ?_)
            | (refine wpList_load_if rfl 43 _ rfl g16 rfl 43 VA (0, 0) _ (unhide HE16) Tryd.underlying43 rfl (by rw [z27, unhide HVS]) ?_)
            | (refine wpList_load_if rfl 43 _ rfl (w.heap.size + 1) rfl 43 RA (0, 0) _ (unhide HE8) Tryd.underlying43 rfl (by rw [z27, unhide HRS]) ?_))
          go_ret
          exact ⟨rfl, unhide HBW⟩
        | true =>
          cases r2 with
          | false =>
            go_wp2_with (first
              | (refine wpList_load_row rfl 43 _ rfl g15 rfl 43 UA (0, 0) _ (unhide HE15) Tryd.underlying43 rfl (by rw [z27, unhide HUS]) ?_)
              | (refine wpList_load_row rfl 43 _ rfl w.heap.size rfl 43 OA (0, 0) _ (unhide HE7) Tryd.underlying43 rfl (by rw [z27, unhide HOS]) ?_)
              | (refine wpList_load_if rfl 43 _ rfl g16 rfl 43 VA (0, 0) _ (unhide HE16) Tryd.underlying43 rfl (by rw [z27, unhide HVS]) ?_)
              | (refine wpList_load_if rfl 43 _ rfl (w.heap.size + 1) rfl 43 RA (0, 0) _ (unhide HE8) Tryd.underlying43 rfl (by rw [z27, unhide HRS]) ?_))
            go_ret
            exact ⟨rfl, unhide HBW⟩
          | true =>
            go_wp2_with (first
              | (refine wpList_load_row rfl 43 _ rfl g15 rfl 43 UA (0, 0) _ (unhide HE15) Tryd.underlying43 rfl (by rw [z27, unhide HUS]) ?_)
              | (refine wpList_load_row rfl 43 _ rfl w.heap.size rfl 43 OA (0, 0) _ (unhide HE7) Tryd.underlying43 rfl (by rw [z27, unhide HOS]) ?_)
              | (refine wpList_load_if rfl 43 _ rfl g16 rfl 43 VA (0, 0) _ (unhide HE16) Tryd.underlying43 rfl (by rw [z27, unhide HVS]) ?_)
              | (refine wpList_load_if rfl 43 _ rfl (w.heap.size + 1) rfl 43 RA (0, 0) _ (unhide HE8) Tryd.underlying43 rfl (by rw [z27, unhide HRS]) ?_))
            go_ret
            exact ⟨rfl, unhide HBW⟩
  · go_simp
    refine hK.out _ _ ?_ (fun hHeld2 => ?_)
    · exact World.rangeAt_alloc hHeld _
    clear hK K
    try simp only [Act.put, List.setIfInBounds_toArray, List.set_cons_zero, List.set_cons_succ]
    refine wpAnyH_ready (rs := [2]) (by kernel_rfl) (by simp) ?_
    refine AllReadyH.cons (o := { dst := some 15, op := Op.alloc 43, type := 0, pos := "ref.go:139", after := #[], guard := none }) rfl (fun K hK => ?_) AllReadyH.nil
    go_simp
    refine hK.out _ _ ?_ (fun hHeld3 => ?_)
    · exact World.rangeAt_alloc hHeld2 _
    clear hK K
    try simp only [Act.put, List.setIfInBounds_toArray, List.set_cons_zero, List.set_cons_succ]
    have he1 : (((w4.alloc (.cells Z 43)).alloc (.cells Z 43)).drew).heap[w4.heap.size]? = some (.cells Z 43 (0, 0)) := by
      have bx : Below (w4.alloc (.cells Z 43)).heap.size (w4.alloc (.cells Z 43)) ((w4.alloc (.cells Z 43)).alloc (.cells Z 43)) := (Below.refl _ _).alloc (Nat.le_refl _) _
      exact (bx.block _ (by rw [size_alloc]; exact Nat.lt_succ_self _)).trans (heap_alloc_new w4 _)
    have he2 : (((w4.alloc (.cells Z 43)).alloc (.cells Z 43)).drew).heap[w4.heap.size + 1]? = some (.cells Z 43 (0, 0)) := by
      have := heap_alloc_new (w4.alloc (.cells Z 43)) (.cells Z 43)
      rw [size_alloc] at this
      exact this
    have HE15a : Hid ((((w4.alloc (.cells Z 43)).alloc (.cells Z 43)).drew).heap[(w4.heap.size + 1)]? = some (.cells Z 43 (0, 0))) := hide he2
    have HE16a : Hid (((((w4.alloc (.cells Z 43)).alloc (.cells Z 43)).drew).setRow (w4.heap.size + 1) FA).heap[w4.heap.size]? = some (.cells Z 43 (0, 0))) := hide (arr_other he1 (by omega))
    have HBa : Hid (Below w4.heap.size w4 (((w4.alloc (.cells Z 43)).alloc (.cells Z 43)).drew)) := hide (by
      exact (bal (bal (Below.refl _ _) _) _).drew)
    have HG13 := hide (unhide HR13).lt
    clear he1 he2
    refine wpAnyH_ready (rs := [4]) (by kernel_rfl) (by simp) ?_
    refine AllReadyH.cons (o := { dst := none, op := Op.store 43 (Operand.tmp 15) (Operand.tmp 53), type := 0, pos := "ref.go:139", after := #[{ on := 2, ground := Ground.data }, { on := 0, ground := Ground.data }, { on := 0, ground := Ground.phase }, { on := 1, ground := Ground.textOnly Departure.lateStores }, { on := 2, ground := Ground.phase }, { on := 3, ground := Ground.phase }], guard := none }) rfl (fun K hK => ?_) AllReadyH.nil
    rw [if_pos (by rfl)]
    refine wp_store_row 43 _ _ rfl (w4.heap.size + 1) FA rfl rfl 43 Z (unhide HE15a) (by rw [z27, unhide HFS]) (by rw [unhide HFS, unhide HZS]) (unhide HFO) ?_
    refine hK.out _ _ (rangeAt_setRow hHeld3 (by have := unhide HG13; omega) _) (fun hHeld4 => ?_)
    clear hK K
    try simp only [Act.put, List.setIfInBounds_toArray, List.set_cons_zero, List.set_cons_succ]
    refine wpAnyH_ready (rs := [5]) (by kernel_rfl) (by simp) ?_
    refine AllReadyH.cons (o := { dst := none, op := Op.store 43 (Operand.tmp 16) (Operand.tmp 54), type := 0, pos := "ref.go:139", after := #[{ on := 3, ground := Ground.data }, { on := 1, ground := Ground.data }, { on := 4, ground := Ground.chain }, { on := 0, ground := Ground.phase }, { on := 1, ground := Ground.phase }, { on := 2, ground := Ground.phase }, { on := 3, ground := Ground.phase }, { on := 4, ground := Ground.phase }], guard := none }) rfl (fun K hK => ?_) AllReadyH.nil
    rw [if_pos (by rfl)]
    refine wp_store_row 43 _ _ rfl w4.heap.size FA rfl rfl 43 Z (unhide HE16a) (by rw [z27, unhide HFS]) (by rw [unhide HFS, unhide HZS]) (unhide HFO) ?_
    refine hK.out _ _ (rangeAt_setRow hHeld4 (by have := unhide HG13; omega) _) (fun hHeld5 => ?_)
    clear hK K
    try simp only [Act.put, List.setIfInBounds_toArray, List.set_cons_zero, List.set_cons_succ]
    refine wpAnyH_done (by kernel_rfl) ?_ _
    have HE15 : Hid ((((((w4.alloc (.cells Z 43)).alloc (.cells Z 43)).drew).setRow (w4.heap.size + 1) FA).setRow w4.heap.size FA).heap[(w4.heap.size + 1)]? = some (.cells FA 43 (0, 0))) := hide (arr_other (setRow_heap _ _ _ _ _ _ (unhide HE15a)) (by omega))
    have HE16 : Hid ((((((w4.alloc (.cells Z 43)).alloc (.cells Z 43)).drew).setRow (w4.heap.size + 1) FA).setRow w4.heap.size FA).heap[w4.heap.size]? = some (.cells FA 43 (0, 0))) := hide (setRow_heap _ _ _ _ _ _ (unhide HE16a))
    have HBL : Hid (Below w4.heap.size w4 (((((w4.alloc (.cells Z 43)).alloc (.cells Z 43)).drew).setRow (w4.heap.size + 1) FA).setRow w4.heap.size FA)) := hide (Below.setRow (Below.setRow (unhide HBa) _ _ (by omega)) _ _ (by omega))
    have HGG : Hid (w4.heap.size ≤ (w4.heap.size + 1) ∧ w4.heap.size ≤ w4.heap.size ∧ (w4.heap.size + 1) ≠ w4.heap.size) := hide (by omega)
    clear HE15a HE16a HBa HG13 hHeld hHeld2 hHeld3 hHeld4 hHeld5
    generalize ((((w4.alloc (.cells Z 43)).alloc (.cells Z 43)).drew).setRow (w4.heap.size + 1) FA).setRow w4.heap.size FA = wL at *
    obtain ⟨H, hH⟩ : ∃ g, w4.heap.size = g := ⟨_, rfl⟩
    obtain ⟨g15, h15⟩ : ∃ g, (w4.heap.size + 1) = g := ⟨_, rfl⟩
    obtain ⟨g16, h16⟩ : ∃ g, w4.heap.size = g := ⟨_, rfl⟩
    have HGG : Hid (H ≤ g15 ∧ H ≤ g16 ∧ g15 ≠ g16) := hide (by omega)
    rw [h15] at HE15 ⊢
    rw [h16] at HE16 ⊢
    have HH := hide hH
    have HR15 : Hid (RowAt wL g15 43 (bv f)) := hide (by show wL.heap[g15]? = some (.cells (bv f).toArray 43 (0, 0)); rw [hFL, hFA]; exact unhide HE15)
    have HR16 : Hid (RowAt wL g16 43 (bv f)) := hide (by show wL.heap[g16]? = some (.cells (bv f).toArray 43 (0, 0)); rw [hFL, hFA]; exact unhide HE16)
    clear h15 h16 hH
    clear HE15 HE16
    go_wp2_with fail
    go_loopw [57] (fun s wr => ∃ k : Nat, k ≤ N ∧ s = .int .i64 (k : Int) ∧ Hid (RowAt wr g15 43 (bv (waL f (S.take k) (Q.take k))) ∧ RowAt wr g16 43 (bv (upL f (S.take k) (Q.take k))) ∧ Below H wL wr)) (fun s _ => (N - intOf s).toNat)
    case atStart => exact ⟨0, by omega, by simp, hide ⟨by rw [(unhide HU0).1]; exact unhide HR15, by rw [(unhide HU0).2]; exact unhide HR16, Below.refl _ _⟩⟩
    case round =>
      obtain ⟨k, hk, rfl, HI⟩ := hrel
      have HGL : Hid (H ≤ wL.heap.size) := hide (by have := (unhide HR15).lt; have := (unhide HGG).1; omega)
      by_cases hlt : k < N
      · obtain ⟨hlP, hlS⟩ := unhide HNN
        obtain ⟨hrow, hrow2, hbel⟩ := unhide HI
        have BW4 : Below w4.heap.size w4 wr := by
          have h1 := unhide HBL
          have h2 := unhide HH
          exact h1.trans (h2 ▸ hbel)
        obtain ⟨ra', rc', hre, _, _, hp32, hps⟩ := (unhide HPQ).call BW4
        rw [hlP] at hre
        obtain ⟨rfl, rfl⟩ : ra = ra' ∧ rc = rc' := by simpa using hre
        rcases hps with hps | ⟨g, o, rfl, hps⟩
        · rw [hps] at hlP; simp at hlP; omega
        obtain ⟨x, hx⟩ : ∃ x, Q[k]? = some x := ⟨_, List.getElem?_eq_getElem (by omega)⟩
        obtain ⟨b, hb⟩ : ∃ x, S[k]? = some x := ⟨_, List.getElem?_eq_getElem (by omega)⟩
        obtain ⟨x1, x8⟩ := hp32 x (List.mem_of_getElem? hx)
        have HST := hide (And.intro (waL_take (s := f) hb hx) (upL_take (s := f) hb hx))
        obtain ⟨⟨l1, l8⟩, m1, m8⟩ := unhide HUP k
        obtain ⟨U, hU⟩ : ∃ U, waL f (S.take k) (Q.take k) = U := ⟨_, rfl⟩
        obtain ⟨V, hV⟩ : ∃ U, upL f (S.take k) (Q.take k) = U := ⟨_, rfl⟩
        rw [hU] at hrow HST l1 l8
        rw [hV] at hrow2 HST m1 m8
        have hS4 := (unhide HS4).call BW4
        obtain ⟨sg, sc', hsg, _⟩ := own_some hS4 (by omega)
        have hsg' := hsg
        rw [hlS] at hsg'
        obtain ⟨rfl, rfl⟩ : sa = some ⟨sg, 0, none⟩ ∧ sc = sc' := by simpa using hsg'
        have cb : wr.cell? ⟨sg, k, none⟩ = some (.bool b) := Bls.at (hlS ▸ hS4) hb
        obtain ⟨XA, hXA⟩ : ∃ A, (bv x).toArray = A := ⟨_, rfl⟩
        obtain ⟨UA, hUA⟩ : ∃ A, (bv U).toArray = A := ⟨_, rfl⟩
        obtain ⟨VA, hVA⟩ : ∃ A, (bv V).toArray = A := ⟨_, rfl⟩
        have HLX := hide (hps.load hx hXA)
        have HXS : Hid (XA.size = 32) := hide (by rw [← hXA, List.size_toArray, bv_len, x1])
        have HXO : Hid (XA.all (·.oneCell') = true) := hide (hXA ▸ one_bv _)
        have HUS : Hid (UA.size = 32) := hide (by rw [← hUA, List.size_toArray, bv_len, l1])
        have HVS : Hid (VA.size = 32) := hide (by rw [← hVA, List.size_toArray, bv_len, m1])
        have b1 : Below wr.heap.size wr (wr.alloc (.cells XA 43)) := (Below.refl _ _).alloc (Nat.le_refl _) _
        have cb1 : (wr.alloc (.cells XA 43)).cell? ⟨sg, k, none⟩ = some (.bool b) := (World.cell?_of_block (b1.block _ (World.block_lt_of_cell? _ _ cb))).trans cb
        have HX18 : Hid (RowAt (wr.alloc (.cells XA 43)) wr.heap.size 43 (bv x)) := hide (hXA ▸ RowAt.new wr 43 (bv x))
        have HX15 := hide (hrow.below b1 hrow.lt)
        have HX16 := hide (hrow2.below b1 hrow2.lt)
        have HBG := hide (hbel.alloc (Nat.le_trans (unhide HGL) hbel.size) (.cells XA 43))
        have HXA := hide hXA
        have HUA := hide hUA
        have HVA := hide hVA
        have kI : (k : Int) < (N : Int) := by omega
        have HE18 := hide ((unhide HX18).arr hXA)
        have HE15 := hide ((unhide HX15).arr hUA)
        have HE16 := hide ((unhide HX16).arr hVA)
        have HLT : Hid (g15 < wr.heap.size ∧ g16 < wr.heap.size) := hide ⟨hrow.lt, hrow2.lt⟩
        cases b with
        | true =>
          have HKN := hide (fun W => rknot_any x U W x1 l1 x8 l8)
          have HKM := hide (fun W => rknot_any x V W x1 m1 x8 m8)
          have hups : upS V true x = knotL x V := rfl
          have hwas : waS U true x = knotL x U := rfl
          rw [hups, hwas] at HST
          obtain ⟨KD, hKD⟩ : ∃ K, knotL x U = K := ⟨_, rfl⟩
          obtain ⟨MD, hMD⟩ : ∃ K, knotL x V = K := ⟨_, rfl⟩
          rw [hKD] at HKN HST
          rw [hMD] at HKM HST
          have HKL : Hid (KD.length = 32) := hide (by rw [← hKD, knotL_len])
          have HML : Hid (MD.length = 32) := hide (by rw [← hMD, knotL_len])
          obtain ⟨KA, hKA⟩ : ∃ A, (bv KD).toArray = A := ⟨_, rfl⟩
          obtain ⟨MA, hMA⟩ : ∃ A, (bv MD).toArray = A := ⟨_, rfl⟩
          rw [hKA, hXA, hUA] at HKN
          rw [hMA, hXA, hVA] at HKM
          have HKS : Hid (KA.size = 32) := hide (by rw [← hKA, List.size_toArray, bv_len, unhide HKL])
          have HMS : Hid (MA.size = 32) := hide (by rw [← hMA, List.size_toArray, bv_len, unhide HML])
          have HKO : Hid (KA.all (·.oneCell') = true) := hide (hKA ▸ one_bv _)
          have HMO : Hid (MA.all (·.oneCell') = true) := hide (hMA ▸ one_bv _)
          have HKA := hide hKA
          have HMA := hide hMA
          clear hKA hKD hMA hMD hups hwas hXA hUA hVA hU hV x1 x8 l1 l8 m1 m8 hx hb hps hp32 hlP hlS hrow hrow2 hbel b1 cb HI hsg hsg' hre BW4 hS4
          go_wp2_with (first
            | (refine wpList_load_run rfl 43 _ rfl ⟨g, o + k * 32, none⟩ rfl (.agg XA) (unhide HLX) ?_)
            | (refine wpList_store_new rfl 43 _ _ rfl XA rfl rfl (by rw [z27, unhide HXS]) (by rw [unhide HXS, unhide HZS]) (unhide HXO) ?_)
            | (refine wpList_load_row rfl 43 _ rfl wr.heap.size rfl 43 XA (0, 0) _ (unhide HE18) Tryd.underlying43 rfl (by rw [z27, unhide HXS]) ?_)
            | (refine wpList_load_row rfl 43 _ rfl g15 rfl 43 UA (0, 0) _ (unhide HE15) Tryd.underlying43 rfl (by rw [z27, unhide HUS]) ?_))
          refine Calls.mono (unhide HKN _) ?_
          rintro e w6 ⟨rfl, b6⟩
          have HE15c := hide (((unhide HX15).below b6 (unhide HX15).lt).arr (unhide HUA))
          have HE16c : Hid ((w6.setRow g15 KA).heap[g16]? = some (.cells VA 43 (0, 0))) := hide (arr_other (((unhide HX16).below b6 (unhide HX16).lt).arr (unhide HVA)) (Ne.symm (unhide HGG).2.2))
          have HE18c : Hid ((w6.setRow g15 KA).heap[wr.heap.size]? = some (.cells XA 43 (0, 0))) := hide (arr_other (((unhide HX18).below b6 (unhide HX18).lt).arr (unhide HXA)) (by have := (unhide HLT).1; omega))
          have HBG6 : Hid (Below H wL (w6.setRow g15 KA)) := hide (Below.setRow ((unhide HBG).trans (b6.mono (Nat.le_trans (unhide HGL) (unhide HBG).size))) _ _ (unhide HGG).1)
          clear b6 HKN
          go_wp2_with (first
            | (refine wpList_store_row rfl 43 _ _ rfl g15 KA rfl rfl 43 UA (unhide HE15c) (by rw [z27, unhide HKS]) (by rw [unhide HKS, unhide HUS]) (unhide HKO) ?_)
            | (refine wpList_load_row rfl 43 _ rfl wr.heap.size rfl 43 XA (0, 0) _ (unhide HE18c) Tryd.underlying43 rfl (by rw [z27, unhide HXS]) ?_)
            | (refine wpList_load_row rfl 43 _ rfl g16 rfl 43 VA (0, 0) _ (unhide HE16c) Tryd.underlying43 rfl (by rw [z27, unhide HVS]) ?_))
          have HE15d : Hid ((w6.setRow g15 KA).heap[g15]? = some (.cells KA 43 (0, 0))) := hide (setRow_heap _ _ _ _ _ _ (unhide HE15c))
          generalize w6.setRow g15 KA = w7 at *
          refine Calls.mono (unhide HKM _) ?_
          rintro e w8 ⟨rfl, b8⟩
          have HE16e : Hid (w8.heap[g16]? = some (.cells VA 43 (0, 0))) := hide ((b8.block _ (Array.getElem?_eq_some_iff.1 (unhide HE16c)).1).trans (unhide HE16c))
          have HE15e : Hid (w8.heap[g15]? = some (.cells KA 43 (0, 0))) := hide ((b8.block _ (Array.getElem?_eq_some_iff.1 (unhide HE15d)).1).trans (unhide HE15d))
          have HBG8 : Hid (Below H wL w8) := hide ((unhide HBG6).trans (b8.mono (Nat.le_trans (unhide HGL) (unhide HBG6).size)))
          clear b8 HKM
          go_wp2_with (refine wpList_store_row rfl 43 _ _ rfl g16 MA rfl rfl 43 VA (unhide HE16e) (by rw [z27, unhide HMS]) (by rw [unhide HMS, unhide HVS]) (unhide HMO) ?_)
          go_roundw
          case rel => exact ⟨k + 1, by omega, by simp, hide ⟨by rw [(unhide HST).1]; exact RowAt.of (unhide HKA) (arr_other (unhide HE15e) (unhide HGG).2.2), by rw [(unhide HST).2]; exact RowAt.of (unhide HMA) (setRow_heap _ _ _ _ _ _ (unhide HE16e)), Below.setRow (unhide HBG8) _ _ (unhide HGG).2.1⟩⟩
          case measure => simp [intOf]; omega
        | false =>
          have HKN := hide (fun W => rknot_any V x W m1 x1 m8 x8)
          have hups : upS V false x = knotL V x := rfl
          have hwas : waS U false x = U := rfl
          rw [hups, hwas] at HST
          obtain ⟨KD, hKD⟩ : ∃ K, knotL V x = K := ⟨_, rfl⟩
          rw [hKD] at HKN HST
          have HKL : Hid (KD.length = 32) := hide (by rw [← hKD, knotL_len])
          obtain ⟨KA, hKA⟩ : ∃ A, (bv KD).toArray = A := ⟨_, rfl⟩
          rw [hKA, hXA, hVA] at HKN
          have HKS : Hid (KA.size = 32) := hide (by rw [← hKA, List.size_toArray, bv_len, unhide HKL])
          have HKO : Hid (KA.all (·.oneCell') = true) := hide (hKA ▸ one_bv _)
          have HKA := hide hKA
          clear hKA hKD hups hwas hXA hUA hVA hU hV x1 x8 l1 l8 m1 m8 hx hb hps hp32 hlP hlS hrow hrow2 hbel b1 cb HI hsg hsg' hre BW4 hS4
          go_wp2_with (first
            | (refine wpList_load_run rfl 43 _ rfl ⟨g, o + k * 32, none⟩ rfl (.agg XA) (unhide HLX) ?_)
            | (refine wpList_store_new rfl 43 _ _ rfl XA rfl rfl (by rw [z27, unhide HXS]) (by rw [unhide HXS, unhide HZS]) (unhide HXO) ?_)
            | (refine wpList_load_row rfl 43 _ rfl wr.heap.size rfl 43 XA (0, 0) _ (unhide HE18) Tryd.underlying43 rfl (by rw [z27, unhide HXS]) ?_)
            | (refine wpList_load_row rfl 43 _ rfl g16 rfl 43 VA (0, 0) _ (unhide HE16) Tryd.underlying43 rfl (by rw [z27, unhide HVS]) ?_))
          refine Calls.mono (unhide HKN _) ?_
          rintro e w6 ⟨rfl, b6⟩
          have HR15c := hide ((unhide HX15).below b6 (unhide HX15).lt)
          have HE16c := hide (((unhide HX16).below b6 (unhide HX16).lt).arr (unhide HVA))
          have HBG6 := hide ((unhide HBG).trans (b6.mono (Nat.le_trans (unhide HGL) (unhide HBG).size)))
          clear b6 HKN
          go_wp2_with (refine wpList_store_row rfl 43 _ _ rfl g16 KA rfl rfl 43 VA (unhide HE16c) (by rw [z27, unhide HKS]) (by rw [unhide HKS, unhide HVS]) (unhide HKO) ?_)
          go_roundw
          case rel => exact ⟨k + 1, by omega, by simp, hide ⟨by rw [(unhide HST).1]; exact arr_other (unhide HR15c) (unhide HGG).2.2, by rw [(unhide HST).2]; exact RowAt.of (unhide HKA) (setRow_heap _ _ _ _ _ _ (unhide HE16c)), Below.setRow (unhide HBG6) _ _ (unhide HGG).2.1⟩⟩
          case measure => simp [intOf]; omega
      · obtain rfl : k = N := by omega
        have kI : ¬ (k : Int) < (k : Int) := by omega
        obtain ⟨hrow, hrow2, hbel⟩ := unhide HI
        have BW4 : Below w4.heap.size w4 wr := by
          have h1 := unhide HBL
          have h2 := unhide HH
          exact h1.trans (h2 ▸ hbel)
        have HBW := hide (bcall (unhide HB4) BW4)
        obtain ⟨⟨l1, l8⟩, m1, m8⟩ := unhide HUP k
        rw [(unhide HUN).1] at hrow l1
        rw [(unhide HUN).2] at hrow2 m1
        have hq1 := eq_sums (waL f S Q) old l1 (unhide HHO)
        have hq2 := eq_sums (upL f S Q) R m1 (unhide HHR)
        rw [(unhide HRR).1] at hq1
        rw [(unhide HRR).2] at hq2
        obtain ⟨UA, hUA⟩ : ∃ A, (bv (waL f S Q)).toArray = A := ⟨_, rfl⟩
        obtain ⟨VA, hVA⟩ : ∃ A, (bv (upL f S Q)).toArray = A := ⟨_, rfl⟩
        rw [hUA, unhide HOA] at hq1
        rw [hVA, unhide HRA] at hq2
        have HUS : Hid (UA.size = 32) := hide (by rw [← hUA, List.size_toArray, bv_len, l1])
        have HVS : Hid (VA.size = 32) := hide (by rw [← hVA, List.size_toArray, bv_len, m1])
        have HE15 := hide (hrow.arr hUA)
        have HE16 := hide (hrow2.arr hVA)
        have HE7 := hide (((unhide HR74).below BW4 (unhide HR74).lt).arr (unhide HOA))
        have HE8 := hide (((unhide HR84).below BW4 (unhide HR84).lt).arr (unhide HRA))
        clear hUA hVA l1 l8 m1 m8 hrow hrow2 hbel BW4 hlt HI
        cases r1 with
        | false =>
          go_wp2_with (first
            | (refine wpList_load_row rfl 43 _ rfl g15 rfl 43 UA (0, 0) _ (unhide HE15) Tryd.underlying43 rfl (by rw [z27, unhide HUS]) ?_)
            | (refine wpList_load_row rfl 43 _ rfl w.heap.size rfl 43 OA (0, 0) _ (unhide HE7) Tryd.underlying43 rfl (by rw [z27, unhide HOS]) ?_)
            | (refine wpList_load_if rfl 43 _ rfl g16 rfl 43 VA (0, 0) _ (unhide HE16) Tryd.underlying43 rfl (by rw [z27, unhide HVS]) ?_)
            | (refine wpList_load_if rfl 43 _ rfl (w.heap.size + 1) rfl 43 RA (0, 0) _ (unhide HE8) Tryd.underlying43 rfl (by rw [z27, unhide HRS]) ?_))
          go_ret
          exact ⟨rfl, unhide HBW⟩
        | true =>
          cases r2 with
          | false =>
            go_wp2_with (first
              | (refine wpList_load_row rfl 43 _ rfl g15 rfl 43 UA (0, 0) _ (unhide HE15) Tryd.underlying43 rfl (by rw [z27, unhide HUS]) ?_)
              | (refine wpList_load_row rfl 43 _ rfl w.heap.size rfl 43 OA (0, 0) _ (unhide HE7) Tryd.underlying43 rfl (by rw [z27, unhide HOS]) ?_)
              | (refine wpList_load_if rfl 43 _ rfl g16 rfl 43 VA (0, 0) _ (unhide HE16) Tryd.underlying43 rfl (by rw [z27, unhide HVS]) ?_)
              | (refine wpList_load_if rfl 43 _ rfl (w.heap.size + 1) rfl 43 RA (0, 0) _ (unhide HE8) Tryd.underlying43 rfl (by rw [z27, unhide HRS]) ?_))
            go_ret
            exact ⟨rfl, unhide HBW⟩
          | true =>
            go_wp2_with (first
              | (refine wpList_load_row rfl 43 _ rfl g15 rfl 43 UA (0, 0) _ (unhide HE15) Tryd.underlying43 rfl (by rw [z27, unhide HUS]) ?_)
              | (refine wpList_load_row rfl 43 _ rfl w.heap.size rfl 43 OA (0, 0) _ (unhide HE7) Tryd.underlying43 rfl (by rw [z27, unhide HOS]) ?_)
              | (refine wpList_load_if rfl 43 _ rfl g16 rfl 43 VA (0, 0) _ (unhide HE16) Tryd.underlying43 rfl (by rw [z27, unhide HVS]) ?_)
              | (refine wpList_load_if rfl 43 _ rfl (w.heap.size + 1) rfl 43 RA (0, 0) _ (unhide HE8) Tryd.underlying43 rfl (by rw [z27, unhide HRS]) ?_))
            go_ret
            exact ⟨rfl, unhide HBW⟩
set_option maxRecDepth 100000 in
set_option maxHeartbeats 16000000 in
theorem rgrows_none (m n : Nat) (old R : List Nat) (vp : Value) (w : World) (hm1 : 1 ≤ m) (hmn : m ≤ n) (hn : n ≤ 1099511627776) (ho : old.length = 32) (hP : PS w vp []) (hw : (wayL m n true).2 = false) :
    Calls Tryd.prog 39 #[.int .i64 (m : Int), .int .i64 (n : Int), .agg (bv old).toArray, .agg (bv R).toArray, vp] w fun e w' => e = .returned (.int .i64 (growsE m n old R [])) ∧ Below w.heap.size w w' := by
  rw [growsE_none hm1 hmn hw]
  have hz := zero27
  generalize hZ : (bv (List.replicate 32 0)).toArray = Z at hz
  have HZS : Hid (Z.size = 32) := hide (by rw [← hZ, List.size_toArray, bv_len, List.length_replicate])
  obtain ⟨OA, hOA⟩ : ∃ A, (bv old).toArray = A := ⟨_, rfl⟩
  obtain ⟨RA, hRA⟩ : ∃ A, (bv R).toArray = A := ⟨_, rfl⟩
  have HOS : Hid (OA.size = 32) := hide (by rw [← hOA, List.size_toArray, bv_len, ho])
  have HOO : Hid (OA.all (·.oneCell') = true) := hide (hOA ▸ one_bv old)
  have b0 : Below w.heap.size w (w.alloc (.cells OA 43)) := (Below.refl _ _).alloc (Nat.le_refl _) _
  have bx : Below (w.alloc (.cells OA 43)).heap.size (w.alloc (.cells OA 43)) ((w.alloc (.cells OA 43)).alloc (.cells RA 43)) := (Below.refl _ _).alloc (Nat.le_refl _) _
  have HB1 : Hid (Below w.heap.size w ((w.alloc (.cells OA 43)).alloc (.cells RA 43))) := hide (b0.alloc b0.size _)
  have HR7 : Hid (RowAt ((w.alloc (.cells OA 43)).alloc (.cells RA 43)) w.heap.size 43 (bv old)) := hide (by
    have r0 : RowAt (w.alloc (.cells OA 43)) w.heap.size 43 (bv old) := hOA ▸ RowAt.new w 43 (bv old)
    exact r0.below bx r0.lt)
  have HWY := hide (p := ∀ W, Below w.heap.size w W → _) (fun W (hW : Below w.heap.size w W) => rway_any n m true W hm1 hmn hn)
  rw [hw] at HWY
  have HOA := hide hOA
  have c1 : ¬ (m : Int) < 1 := by omega
  have c2 : ¬ (n : Int) < (m : Int) := by omega
  have c3 : ¬ (1099511627776 : Int) < (n : Int) := by omega
  obtain ⟨pa, pc, rfl, _⟩ := id hP
  rw [hOA, hRA, List.length_nil]
  clear hZ hOA hRA b0 bx hm1 hmn hn ho hP hw
  go_enter Tryd.func39, Tryd.ntmps39
  go_wp2_with fail
  generalize (w.alloc (.cells OA 43)).alloc (.cells RA 43) = w1 at *
  refine Calls.mono (unhide HWY _ (unhide HB1)) ?_
  rintro e w2 ⟨sv, rfl, b2, S2⟩
  have HB2 := hide (bcall (unhide HB1) b2)
  have HE72 := hide (((unhide HR7).below b2 (unhide HR7).lt).arr (unhide HOA))
  obtain ⟨sa, sc, hsv, _⟩ := own_shape S2
  subst hsv
  have b2a : Below w2.heap.size w2 (w2.alloc (.cells OA 43)) := (Below.refl _ _).alloc (Nat.le_refl _) _
  have HB3 := hide (bcall (unhide HB2) b2a)
  clear b2 b2a S2 HWY
  go_wp2_with (first
    | (refine wpList_load_row rfl 43 _ rfl w.heap.size rfl 43 OA (0, 0) _ (unhide HE72) Tryd.underlying43 rfl (by rw [z27, unhide HOS]) ?_)
    | (refine wpList_store_new rfl 43 _ _ rfl OA rfl rfl (by rw [z27, unhide HOS]) (by rw [unhide HOS, unhide HZS]) (unhide HOO) ?_))
  go_ret
  exact ⟨rfl, unhide HB3⟩
theorem rgrows_ok (m n : Nat) (old R : List Nat) (P : List (List Nat)) (vp : Value) (w : World) (hm1 : 1 ≤ m) (hmn : m ≤ n) (hn : n ≤ 1099511627776) (ho : old.length = 32) (ho8 : U8 old) (hR : R.length = 32) (hP : PS w vp P) :
    Calls Tryd.prog 39 #[.int .i64 (m : Int), .int .i64 (n : Int), .agg (bv old).toArray, .agg (bv R).toArray, vp] w fun e w' => e = .returned (.int .i64 (growsE m n old R P)) ∧ Below w.heap.size w w' := by
  cases hw : (wayL m n true).2 with
  | true => exact rgrows_known m n old R P vp w hm1 hmn hn ho ho8 hR hP hw
  | false =>
    cases P with
    | nil => exact rgrows_none m n old R vp w hm1 hmn hn ho hP hw
    | cons f Q => exact rgrows_first m n old R f Q vp w hm1 hmn hn ho ho8 hR hP hw
end Go.Proofs.YtonkgiiacholeaaDoor
