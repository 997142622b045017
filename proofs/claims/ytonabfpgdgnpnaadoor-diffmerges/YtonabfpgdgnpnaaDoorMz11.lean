/- Parts of the walk: One, Rnm. -/
import Derived.Test.YtonabfpgdgnpnaaDoorMz10
import Derived.Test.YtonabfpgdgnpnaaDoorMz04
import Derived.Test.YtonabfpgdgnpnaaDoorMz09
namespace Go.Proofs.YtonabfpgdgnpnaaDoor
set_option linter.unusedVariables false
set_option linter.unusedSimpArgs false
open Go.ChangeShapes Go.WideShapes Go.ChangeAt Go.RowKit Go.Joins Go.Deep

abbrev zone15 : Oper := { dst := some 48, op := Op.buildSlice 24 0 #[], type := 24, pos := "ref.go:87", after := #[], guard := none }
abbrev zone16 : Oper := { dst := some 52, op := Op.buildSlice 24 1 #[(0, Operand.tmp 51)], type := 24, pos := "ref.go:87", after := #[{ on := 3, ground := Ground.data }], guard := none }
abbrev zone17 : Oper := { dst := some 50, op := Op.call { callee := Callee.builtin Builtin.append, args := #[Operand.tmp 48, Operand.tmp 49], argTypes := #[24, 24] }, type := 24, pos := "ref.go:87", after := #[{ on := 0, ground := Ground.data }, { on := 1, ground := Ground.data }], guard := none }
abbrev zone18 : Oper := { dst := some 53, op := Op.call { callee := Callee.builtin Builtin.append, args := #[Operand.tmp 50, Operand.tmp 52], argTypes := #[24, 24] }, type := 24, pos := "ref.go:87", after := #[{ on := 2, ground := Ground.data }, { on := 4, ground := Ground.data }, { on := 2, ground := Ground.chain }], guard := none }
abbrev zone20 : Oper := { dst := some 39, op := Op.buildSlice 24 0 #[], type := 24, pos := "ref.go:85", after := #[], guard := none }
abbrev zone21 : Oper := { dst := some 46, op := Op.buildSlice 24 1 #[(0, Operand.tmp 45)], type := 24, pos := "ref.go:85", after := #[{ on := 6, ground := Ground.data }], guard := none }
abbrev zone22 : Oper := { dst := some 44, op := Op.call { callee := Callee.builtin Builtin.append, args := #[Operand.tmp 39, Operand.tmp 43], argTypes := #[24, 24] }, type := 24, pos := "ref.go:85", after := #[{ on := 0, ground := Ground.data }, { on := 4, ground := Ground.data }], guard := none }
abbrev zone23 : Oper := { dst := some 47, op := Op.call { callee := Callee.builtin Builtin.append, args := #[Operand.tmp 44, Operand.tmp 46], argTypes := #[24, 24] }, type := 24, pos := "ref.go:85", after := #[{ on := 5, ground := Ground.data }, { on := 7, ground := Ground.data }, { on := 5, ground := Ground.chain }], guard := none }
theorem anyT_two {P : Program} {ops : Array Oper} {Q : Exit → Act → World → Prop} {md : Region.Mode} {S : World → Prop} {hd : Nat → Bool} {i j : Nat} {oi oj : Oper} {fuel : Nat} {listed : Array Bool} {a : Act} {w : World} (hr : Region.ready md ops listed = [i, j]) (hoi : ops[i]? = some oi) (hoj : ops[j]? = some oj)
    (hi : ∀ K' : Act → World → Prop, Shut (∀ a w, (hd i = true → S w) → wpAnyT P md ops Q S hd fuel (listed.setIfInBounds i true) a w → K' a w) → if Region.wanted oi (yielded ops a.tmps) = true then Oper.wp P oi a w K' Q else K' (a.put oi.dst undef) w)
    (hj : ∀ K' : Act → World → Prop, Shut (∀ a w, (hd j = true → S w) → wpAnyT P md ops Q S hd fuel (listed.setIfInBounds j true) a w → K' a w) → if Region.wanted oj (yielded ops a.tmps) = true then Oper.wp P oj a w K' Q else K' (a.put oj.dst undef) w) :
    wpAnyT P md ops Q S hd (fuel + 1) listed a w := by
  refine ⟨fun h0 => absurd (hr ▸ h0) (by simp), fun k hk => ?_⟩
  rw [hr] at hk
  rcases List.mem_cons.1 hk with rfl | hk
  · exact wpOp_step hoi (fun K' hK => hi K' (fun a w hS hW => hK a w ⟨hS, hW⟩))
  · obtain rfl := List.mem_singleton.1 hk
    exact wpOp_step hoj (fun K' hK => hj K' (fun a w hS hW => hK a w ⟨hS, hW⟩))
theorem PtsAt.front {w : World} {a : Option Addr} {l m : List Pt} (h : PtsAt w a (l ++ m)) : PtsAt w a l := by
  rcases h with h | ⟨b, off, h1, h2, h3⟩
  · exact .inl (List.append_eq_nil_iff.1 h).1
  · refine .inr ⟨b, off, h1, h2, fun i p hp => h3 i p ?_⟩
    rw [List.getElem?_append_left]
    · exact hp
    · rcases Nat.lt_or_ge i l.length with h | h
      · exact h
      · rw [List.getElem?_eq_none h] at hp; cases hp
/-- what an append onto an append has, step by step -/
structure AP (w0 w : World) (own : Option (Value × List Pt)) (lit : Option Nat) (p : Pt) : Prop where
  bel : Below w0.heap.size w0 w
  own_ : ∀ v l, own = some (v, l) → OwnP w w0.heap.size v l
  lit_ : ∀ q, lit = some q → RowAt w q 39 (pcs p) ∧ w0.heap.size ≤ q ∧ ∀ v l, own = some (v, l) → v.ownBlock ≠ some q
theorem AP.start (w0 : World) (p : Pt) : AP w0 w0 none none p := ⟨Below.refl _ _, fun _ _ e => (by cases e), fun _ e => (by cases e)⟩
theorem own_empty (w : World) (B : Nat) (hB : B ≤ w.heap.size) : OwnP (w.alloc (.cells #[] 39)) B (.slice (some ⟨w.heap.size, 0, none⟩) 0 0) [] := by
  refine ⟨rfl, .inr ⟨w.heap.size, 0, #[], rfl, hB, ?_, Nat.le_refl _, by unfold maxLen; omega, ?_, ?_⟩⟩
  · exact RowAt.new w 39 []
  · simp
  · simp [ptc]
theorem AP.build {w0 w : World} {lit : Option Nat} {p : Pt} (h : AP w0 w none lit p) : AP w0 (w.alloc (.cells #[] 39)) (some (.slice (some ⟨w.heap.size, 0, none⟩) 0 0, [])) lit p := by
  have hb : Below w.heap.size w (w.alloc (.cells #[] 39)) := (Below.refl _ _).alloc (Nat.le_refl _) _
  refine ⟨h.bel.trans (hb.mono h.bel.size), fun v l e => ?_, fun q e => ?_⟩
  · cases e
    exact own_empty w _ h.bel.size
  · obtain ⟨h1, h2, h3⟩ := h.lit_ q e
    refine ⟨h1.below hb h1.lt, h2, fun v l e => ?_⟩
    cases e
    intro e
    have : w.heap.size = q := by simpa [Value.ownBlock] using e
    have := h1.lt
    omega
theorem AP.lit {w0 w : World} {own : Option (Value × List Pt)} {p : Pt} (h : AP w0 w own none p) : AP w0 (w.alloc (.cells #[.int .i64 p.kind, .int .i64 p.n, .string p.text] 39)) own (some w.heap.size) p := by
  have hb : Below w.heap.size w (w.alloc (.cells #[.int .i64 p.kind, .int .i64 p.n, .string p.text] 39)) := (Below.refl _ _).alloc (Nat.le_refl _) _
  refine ⟨h.bel.trans (hb.mono h.bel.size), fun v l e => (h.own_ v l e).call hb, fun q e => ?_⟩
  cases e
  refine ⟨RowAt.new w 39 (pcs p), h.bel.size, fun v l e e2 => ?_⟩
  have := ((h.own_ v l e).lt _ e2).2
  omega
theorem AP.grow {w0 w w' : World} {v v' : Value} {l l' : List Pt} {lit : Option Nat} {p : Pt} (h : AP w0 w (some (v, l)) lit p) (ho : OwnP w' w0.heap.size v' l') (hg : w.grownBy w' v.ownBlock) (hv : v'.ownBlock = v.ownBlock ∨ v'.ownBlock = some w.heap.size) : AP w0 w' (some (v', l')) lit p := by
  have hon := grown_only hg
  have hv0 := h.own_ v l rfl
  refine ⟨h.bel.trans (hon.below h.bel.size (fun k hk => (hv0.lt k hk).1)), fun x y e => ?_, fun q e => ?_⟩
  · cases e; exact ho
  · obtain ⟨h1, h2, h3⟩ := h.lit_ q e
    refine ⟨h1.only hon (fun e => h3 v l rfl e), h2, fun x y e => ?_⟩
    cases e
    intro e
    rcases hv with hv | hv
    · exact h3 v l rfl (by rw [← hv]; exact e)
    · rw [hv] at e
      have : w.heap.size = q := by simpa using e
      have := h1.lt
      omega
set_option maxRecDepth 100000 in
set_option maxHeartbeats 4000000 in
theorem one_any (a : Option Addr) (l : List Pt) (c : Nat) (p : Pt) (w : World) (hp : PtsAt w a l) (hc : l.length ≤ c) (hm : c ≤ maxLen) (hl : l.length ≤ 1099511627776) (hn : ∀ q, l.getLast? = some q → q.kind = p.kind → -9223372036854775808 ≤ q.n + p.n ∧ q.n + p.n ≤ 9223372036854775807 ∧ q.text.size + p.text.size ≤ 9223372036854775807) :
    Calls Tryd.prog 55 #[.slice a l.length c, .agg #[.int .i64 p.kind, .int .i64 p.n, .string p.text]] w fun r w' => ∃ v, r = .returned v ∧ OwnP w' w.heap.size v (oneL l p) ∧ Below w.heap.size w w' := by
  have hbA : Below w.heap.size w (w.alloc (.cells #[.int .i64 p.kind, .int .i64 p.n, .string p.text] 39)) := (Below.refl _ _).alloc (Nat.le_refl _) _
  have HPW := hide (hp.call hbA)
  have HLN : Hid (l.length ≤ 1099511627776) := hide hl
  have HBA := hide hbA
  have HRW := hide (RowAt.new w 39 [.int .i64 p.kind, .int .i64 p.n, .string p.text])
  clear hbA
  obtain ⟨n, hnn⟩ : ∃ n, l.length = n := ⟨_, rfl⟩
  have HLN2 := hide hnn
  rw [hnn] at hc hl ⊢
  rcases snoc_or l with hl0 | ⟨L, q, hl0⟩
  · subst hl0
    obtain rfl : 0 = n := hnn
    have HEQ : Hid (oneL [] p = [] ++ [p]) := hide rfl
    have HPW : Hid (PtsAt (w.alloc (.cells #[.int .i64 p.kind, .int .i64 p.n, .string p.text] 39)) a []) := HPW
    clear hp hn
    go_enter Tryd.func55, Tryd.ntmps55
    go_wp2_with fail
    obtain ⟨wA, hA⟩ : ∃ wA, w.alloc (.cells #[.int .i64 p.kind, .int .i64 p.n, .string p.text] 39) = wA := ⟨_, rfl⟩
    rw [hA] at HBA HRW HPW ⊢
    clear hA
    obtain ⟨bb, hbb⟩ : ∃ bb, w.heap.size = bb := ⟨_, rfl⟩
    have HBB := hide hbb
    simp only [hbb] at HRW ⊢
    have HS2 : Hid (∀ W, Below wA.heap.size wA W → W.cell? ⟨bb, 0, none⟩ = some (.int .i64 p.kind)) := hide (fun W hW => ((unhide HRW).below hW (unhide HRW).lt).cell 0)
    refine wp_region_T (S := fun W => W.cell? ⟨bb, 0, none⟩ = some (.int .i64 p.kind)) (fun i => decide (i < 13)) (by kernel_rfl) (unhide HS2 _ (Below.refl _ _).drew) (fun hHeld => ?_)
    refine tk 0 (v := .int .i64 0) rfl (Or.inl ⟨by rfl, ?_⟩) hHeld ?_
    · intro w hSw
      have s0 := hSw
      first
        | rfl
        | (go_simp; done)
    try go_frame
    refine tk 1 (v := .bool false) rfl (Or.inl ⟨by rfl, ?_⟩) hHeld ?_
    · intro w hSw
      have s0 := hSw
      first
        | rfl
        | (go_simp; done)
    try go_frame
    refine tk 2 (v := .bool false) rfl (Or.inl ⟨by rfl, ?_⟩) hHeld ?_
    · intro w hSw
      have s0 := hSw
      first
        | rfl
        | (go_simp; done)
    try go_frame
    refine tk 3 (v := undef) rfl (Or.inr ⟨by rfl, rfl⟩) hHeld ?_
    try go_frame
    refine tk 4 (v := undef) rfl (Or.inr ⟨by rfl, rfl⟩) hHeld ?_
    try go_frame
    refine tk 5 (v := undef) rfl (Or.inr ⟨by rfl, rfl⟩) hHeld ?_
    try go_frame
    refine tk 6 (v := undef) rfl (Or.inr ⟨by rfl, rfl⟩) hHeld ?_
    try go_frame
    refine tk 7 (v := undef) rfl (Or.inr ⟨by rfl, rfl⟩) hHeld ?_
    try go_frame
    refine tk 8 (v := undef) rfl (Or.inr ⟨by rfl, rfl⟩) hHeld ?_
    try go_frame
    refine tk 9 (v := undef) rfl (Or.inr ⟨by rfl, rfl⟩) hHeld ?_
    try go_frame
    refine tk 10 (v := undef) rfl (Or.inr ⟨by rfl, rfl⟩) hHeld ?_
    try go_frame
    refine tk 11 (v := undef) rfl (Or.inr ⟨by rfl, rfl⟩) hHeld ?_
    try go_frame
    refine tk 12 (v := .bool false) rfl (Or.inl ⟨by rfl, ?_⟩) hHeld ?_
    · intro w hSw
      have s0 := hSw
      first
        | rfl
        | (go_simp; done)
    try go_frame
    refine wpAnyT_done (by kernel_rfl) ?_ _
    clear hHeld HS2
    go_wp2_with fail
    obtain ⟨wd, hwd⟩ : ∃ z, wA.drew.drew = z := ⟨_, rfl⟩
    have hbd : Below wA.heap.size wA wd := by rw [← hwd]; exact (Below.refl _ _).drew.drew
    have HRW := hide ((unhide HRW).below hbd (unhide HRW).lt)
    have HSS : Hid (∀ W, Below wd.heap.size wd W → W.cell? ⟨bb, 0, none⟩ = some (.int .i64 p.kind) ∧ W.cell? ⟨bb, 1, none⟩ = some (.int .i64 p.n) ∧ W.cell? ⟨bb, 2, none⟩ = some (.string p.text)) := hide (fun W hW => ⟨((unhide HRW).below hW (unhide HRW).lt).cell 0, ((unhide HRW).below hW (unhide HRW).lt).cell 1, ((unhide HRW).below hW (unhide HRW).lt).cell 2⟩)
    have HPT : Hid (∀ W, Below wd.heap.size wd W → PtsAt W a []) := hide (fun W hW => ((unhide HPW).call hbd).call hW)
    have HBW : Hid (Below w.heap.size w wd) := hide ((unhide HBA).trans (hbd.mono (unhide HBA).size))
    have HEND : Hid (∀ v W, OwnP W wd.heap.size v ([] ++ [p]) → Below wd.heap.size wd W → OwnP W w.heap.size v (oneL [] p) ∧ Below w.heap.size w W) := hide (fun v W h1 h2 => ⟨by rw [unhide HEQ]; exact own_base h1 (unhide HBW).size, (unhide HBW).trans (h2.mono (unhide HBW).size)⟩)
    clear HPW HBA hbd
    have HA0 := hide (AP.start wd p)
    refine wp_region_T (S := fun W => W.cell? ⟨bb, 0, none⟩ = some (.int .i64 p.kind) ∧ W.cell? ⟨bb, 1, none⟩ = some (.int .i64 p.n) ∧ W.cell? ⟨bb, 2, none⟩ = some (.string p.text)) (fun i => decide (i < 7)) (by kernel_rfl) (by rw [hwd]; exact unhide HSS _ (Below.refl _ _)) (fun hHeld => ?_)
    rw [hwd] at hHeld ⊢
    clear hwd
    refine tk 1 (v := .slice a 0 c) rfl (Or.inl ⟨by rfl, ?_⟩) hHeld ?_
    · intro w hSw
      obtain ⟨s0, s1, s2⟩ := hSw
      first
        | rfl
        | (go_simp; done)
    try go_frame
    refine tk 3 (v := .agg #[.int .i64 p.kind, .int .i64 p.n, .string p.text]) rfl (Or.inl ⟨by rfl, ?_⟩) hHeld ?_
    · intro w hSw
      obtain ⟨s0, s1, s2⟩ := hSw
      first
        | rfl
        | (go_simp; done)
    try go_frame
    refine anyT_two (i := 0) (j := 4) (oi := zone15) (oj := zone16) (by kernel_rfl) rfl rfl (fun K hK => ?_) (fun K hK => ?_)
    · skip
      go_simp
      have HZ1 := hide (unhide HA0).build
      obtain ⟨wz1, hwz1⟩ : ∃ z, wd.alloc (.cells #[] 39) = z := ⟨_, rfl⟩
      obtain ⟨vwz1, hvwz1⟩ : ∃ z, Value.slice (some ⟨wd.heap.size, 0, none⟩) 0 0 = z := ⟨_, rfl⟩
      rw [hwz1, hvwz1] at HZ1
      simp only [hwz1, hvwz1]
      clear hwz1 hvwz1 HA0
      have hSS : wz1.cell? ⟨bb, 0, none⟩ = some (.int .i64 p.kind) ∧ wz1.cell? ⟨bb, 1, none⟩ = some (.int .i64 p.n) ∧ wz1.cell? ⟨bb, 2, none⟩ = some (.string p.text) := unhide HSS _ (unhide HZ1).bel
      refine hK.out _ _ (fun _ => hSS) ?_
      clear hK K
      clear hSS
      try go_frame
      refine anyT_two (i := 2) (j := 4) (oi := zone17) (oj := zone16) (by kernel_rfl) rfl rfl (fun K hK => ?_) (fun K hK => ?_)
      · skip
        refine wp_append_pts (W := wz1) (Operand.tmp 48) (Operand.tmp 49) rfl wd.heap.size vwz1 [] [] a c rfl ((unhide HZ1).own_ _ _ rfl) (by simp only [List.length_nil]; have := unhide HLN; omega) (unhide HZ1).bel.size (by simp only [unhide HLN2]; rfl) (unhide HPT _ (unhide HZ1).bel) (fun ad_ cap_ wz2 hv3 hg3 hk3 => ?_)
        have HZ2 := hide ((unhide HZ1).grow hv3 hg3 hk3)
        obtain ⟨vwz2, hvwz2⟩ : ∃ z, Value.slice ad_ (([] : List Pt).length + ([] : List Pt).length) cap_ = z := ⟨_, rfl⟩
        rw [hvwz2] at HZ2
        simp only [hvwz2]
        clear hvwz2 hv3 hg3 hk3 HZ1
        have hSS : wz2.cell? ⟨bb, 0, none⟩ = some (.int .i64 p.kind) ∧ wz2.cell? ⟨bb, 1, none⟩ = some (.int .i64 p.n) ∧ wz2.cell? ⟨bb, 2, none⟩ = some (.string p.text) := unhide HSS _ (unhide HZ2).bel
        refine hK.out _ _ (fun _ => hSS) ?_
        clear hK K
        clear hSS
        try go_frame
        refine wpAnyT_one (i := 4) (o := zone16) (by kernel_rfl) rfl (fun K hK => ?_)
        try simp only [pv]
        go_simp
        have HZ3 := hide (unhide HZ2).lit
        obtain ⟨wz3, hwz3⟩ : ∃ z, wz2.alloc (.cells #[.int .i64 p.kind, .int .i64 p.n, .string p.text] 39) = z := ⟨_, rfl⟩
        obtain ⟨qwz3, hqwz3⟩ : ∃ z, wz2.heap.size = z := ⟨_, rfl⟩
        rw [hwz3, hqwz3] at HZ3
        simp only [hwz3, hqwz3]
        clear hwz3 hqwz3 HZ2
        have hSS : wz3.cell? ⟨bb, 0, none⟩ = some (.int .i64 p.kind) ∧ wz3.cell? ⟨bb, 1, none⟩ = some (.int .i64 p.n) ∧ wz3.cell? ⟨bb, 2, none⟩ = some (.string p.text) := unhide HSS _ (unhide HZ3).bel
        refine hK.out _ _ (fun _ => hSS) ?_
        clear hK K
        clear hSS
        try go_frame
        refine wpAnyT_one (i := 5) (o := zone18) (by kernel_rfl) rfl (fun K hK => ?_)
        refine wp_append_pts (W := wz3) (Operand.tmp 50) (Operand.tmp 52) rfl wd.heap.size vwz2 [] [p] (some ⟨qwz3, 0, none⟩) 1 rfl ((unhide HZ3).own_ _ _ rfl) (by simp only [List.length_cons, List.length_nil]; have := unhide HLN; omega) (unhide HZ3).bel.size rfl (row_pts (l := [p]) (by simpa [ptc] using ((unhide HZ3).lit_ _ rfl).1)) (fun ad_ cap_ wz4 hv3 hg3 hk3 => ?_)
        have HZ4 := hide ((unhide HZ3).grow hv3 hg3 hk3)
        obtain ⟨vwz4, hvwz4⟩ : ∃ z, Value.slice ad_ (([] : List Pt).length + ([p] : List Pt).length) cap_ = z := ⟨_, rfl⟩
        rw [hvwz4] at HZ4
        simp only [hvwz4]
        clear hvwz4 hv3 hg3 hk3 HZ3
        have hSS : wz4.cell? ⟨bb, 0, none⟩ = some (.int .i64 p.kind) ∧ wz4.cell? ⟨bb, 1, none⟩ = some (.int .i64 p.n) ∧ wz4.cell? ⟨bb, 2, none⟩ = some (.string p.text) := unhide HSS _ (unhide HZ4).bel
        refine hK.out _ _ (fun _ => hSS) ?_
        clear hK K
        clear hSS
        try go_frame
        have hSS : wz4.cell? ⟨bb, 0, none⟩ = some (.int .i64 p.kind) ∧ wz4.cell? ⟨bb, 1, none⟩ = some (.int .i64 p.n) ∧ wz4.cell? ⟨bb, 2, none⟩ = some (.string p.text) := unhide HSS _ (unhide HZ4).bel
        refine tk 6 (v := vwz4) rfl (Or.inl ⟨by rfl, ?_⟩) hSS ?_
        · intro w hSw
          obtain ⟨s0, s1, s2⟩ := hSw
          first
            | rfl
            | (go_simp; done)
        try go_frame
        refine wpAnyT_done (by kernel_rfl) ?_ _
        have HF := hide ((unhide HZ4).own_ _ _ rfl)
        have HFB := hide (unhide HZ4).bel
        clear HZ4 hSS hHeld
        go_wp2_with fail
        go_ret
        exact ⟨_, rfl, (unhide HEND _ _ (unhide HF) (unhide HFB)).1, (unhide HEND _ _ (unhide HF) (unhide HFB)).2⟩
      · skip
        try simp only [pv]
        go_simp
        have HZ5 := hide (unhide HZ1).lit
        obtain ⟨wz5, hwz5⟩ : ∃ z, wz1.alloc (.cells #[.int .i64 p.kind, .int .i64 p.n, .string p.text] 39) = z := ⟨_, rfl⟩
        obtain ⟨qwz5, hqwz5⟩ : ∃ z, wz1.heap.size = z := ⟨_, rfl⟩
        rw [hwz5, hqwz5] at HZ5
        simp only [hwz5, hqwz5]
        clear hwz5 hqwz5 HZ1
        have hSS : wz5.cell? ⟨bb, 0, none⟩ = some (.int .i64 p.kind) ∧ wz5.cell? ⟨bb, 1, none⟩ = some (.int .i64 p.n) ∧ wz5.cell? ⟨bb, 2, none⟩ = some (.string p.text) := unhide HSS _ (unhide HZ5).bel
        refine hK.out _ _ (fun _ => hSS) ?_
        clear hK K
        clear hSS
        try go_frame
        refine wpAnyT_one (i := 2) (o := zone17) (by kernel_rfl) rfl (fun K hK => ?_)
        refine wp_append_pts (W := wz5) (Operand.tmp 48) (Operand.tmp 49) rfl wd.heap.size vwz1 [] [] a c rfl ((unhide HZ5).own_ _ _ rfl) (by simp only [List.length_nil]; have := unhide HLN; omega) (unhide HZ5).bel.size (by simp only [unhide HLN2]; rfl) (unhide HPT _ (unhide HZ5).bel) (fun ad_ cap_ wz6 hv3 hg3 hk3 => ?_)
        have HZ6 := hide ((unhide HZ5).grow hv3 hg3 hk3)
        obtain ⟨vwz6, hvwz6⟩ : ∃ z, Value.slice ad_ (([] : List Pt).length + ([] : List Pt).length) cap_ = z := ⟨_, rfl⟩
        rw [hvwz6] at HZ6
        simp only [hvwz6]
        clear hvwz6 hv3 hg3 hk3 HZ5
        have hSS : wz6.cell? ⟨bb, 0, none⟩ = some (.int .i64 p.kind) ∧ wz6.cell? ⟨bb, 1, none⟩ = some (.int .i64 p.n) ∧ wz6.cell? ⟨bb, 2, none⟩ = some (.string p.text) := unhide HSS _ (unhide HZ6).bel
        refine hK.out _ _ (fun _ => hSS) ?_
        clear hK K
        clear hSS
        try go_frame
        refine wpAnyT_one (i := 5) (o := zone18) (by kernel_rfl) rfl (fun K hK => ?_)
        refine wp_append_pts (W := wz6) (Operand.tmp 50) (Operand.tmp 52) rfl wd.heap.size vwz6 [] [p] (some ⟨qwz5, 0, none⟩) 1 rfl ((unhide HZ6).own_ _ _ rfl) (by simp only [List.length_cons, List.length_nil]; have := unhide HLN; omega) (unhide HZ6).bel.size rfl (row_pts (l := [p]) (by simpa [ptc] using ((unhide HZ6).lit_ _ rfl).1)) (fun ad_ cap_ wz7 hv3 hg3 hk3 => ?_)
        have HZ7 := hide ((unhide HZ6).grow hv3 hg3 hk3)
        obtain ⟨vwz7, hvwz7⟩ : ∃ z, Value.slice ad_ (([] : List Pt).length + ([p] : List Pt).length) cap_ = z := ⟨_, rfl⟩
        rw [hvwz7] at HZ7
        simp only [hvwz7]
        clear hvwz7 hv3 hg3 hk3 HZ6
        have hSS : wz7.cell? ⟨bb, 0, none⟩ = some (.int .i64 p.kind) ∧ wz7.cell? ⟨bb, 1, none⟩ = some (.int .i64 p.n) ∧ wz7.cell? ⟨bb, 2, none⟩ = some (.string p.text) := unhide HSS _ (unhide HZ7).bel
        refine hK.out _ _ (fun _ => hSS) ?_
        clear hK K
        clear hSS
        try go_frame
        have hSS : wz7.cell? ⟨bb, 0, none⟩ = some (.int .i64 p.kind) ∧ wz7.cell? ⟨bb, 1, none⟩ = some (.int .i64 p.n) ∧ wz7.cell? ⟨bb, 2, none⟩ = some (.string p.text) := unhide HSS _ (unhide HZ7).bel
        refine tk 6 (v := vwz7) rfl (Or.inl ⟨by rfl, ?_⟩) hSS ?_
        · intro w hSw
          obtain ⟨s0, s1, s2⟩ := hSw
          first
            | rfl
            | (go_simp; done)
        try go_frame
        refine wpAnyT_done (by kernel_rfl) ?_ _
        have HF := hide ((unhide HZ7).own_ _ _ rfl)
        have HFB := hide (unhide HZ7).bel
        clear HZ7 hSS hHeld
        go_wp2_with fail
        go_ret
        exact ⟨_, rfl, (unhide HEND _ _ (unhide HF) (unhide HFB)).1, (unhide HEND _ _ (unhide HF) (unhide HFB)).2⟩
    · skip
      try simp only [pv]
      go_simp
      have HZ8 := hide (unhide HA0).lit
      obtain ⟨wz8, hwz8⟩ : ∃ z, wd.alloc (.cells #[.int .i64 p.kind, .int .i64 p.n, .string p.text] 39) = z := ⟨_, rfl⟩
      obtain ⟨qwz8, hqwz8⟩ : ∃ z, wd.heap.size = z := ⟨_, rfl⟩
      rw [hwz8, hqwz8] at HZ8
      simp only [hwz8, hqwz8]
      clear hwz8 hqwz8 HA0
      have hSS : wz8.cell? ⟨bb, 0, none⟩ = some (.int .i64 p.kind) ∧ wz8.cell? ⟨bb, 1, none⟩ = some (.int .i64 p.n) ∧ wz8.cell? ⟨bb, 2, none⟩ = some (.string p.text) := unhide HSS _ (unhide HZ8).bel
      refine hK.out _ _ (fun _ => hSS) ?_
      clear hK K
      clear hSS
      try go_frame
      refine wpAnyT_one (i := 0) (o := zone15) (by kernel_rfl) rfl (fun K hK => ?_)
      go_simp
      have HZ9 := hide (unhide HZ8).build
      obtain ⟨wz9, hwz9⟩ : ∃ z, wz8.alloc (.cells #[] 39) = z := ⟨_, rfl⟩
      obtain ⟨vwz9, hvwz9⟩ : ∃ z, Value.slice (some ⟨wz8.heap.size, 0, none⟩) 0 0 = z := ⟨_, rfl⟩
      rw [hwz9, hvwz9] at HZ9
      simp only [hwz9, hvwz9]
      clear hwz9 hvwz9 HZ8
      have hSS : wz9.cell? ⟨bb, 0, none⟩ = some (.int .i64 p.kind) ∧ wz9.cell? ⟨bb, 1, none⟩ = some (.int .i64 p.n) ∧ wz9.cell? ⟨bb, 2, none⟩ = some (.string p.text) := unhide HSS _ (unhide HZ9).bel
      refine hK.out _ _ (fun _ => hSS) ?_
      clear hK K
      clear hSS
      try go_frame
      refine wpAnyT_one (i := 2) (o := zone17) (by kernel_rfl) rfl (fun K hK => ?_)
      refine wp_append_pts (W := wz9) (Operand.tmp 48) (Operand.tmp 49) rfl wd.heap.size vwz9 [] [] a c rfl ((unhide HZ9).own_ _ _ rfl) (by simp only [List.length_nil]; have := unhide HLN; omega) (unhide HZ9).bel.size (by simp only [unhide HLN2]; rfl) (unhide HPT _ (unhide HZ9).bel) (fun ad_ cap_ wz10 hv3 hg3 hk3 => ?_)
      have HZ10 := hide ((unhide HZ9).grow hv3 hg3 hk3)
      obtain ⟨vwz10, hvwz10⟩ : ∃ z, Value.slice ad_ (([] : List Pt).length + ([] : List Pt).length) cap_ = z := ⟨_, rfl⟩
      rw [hvwz10] at HZ10
      simp only [hvwz10]
      clear hvwz10 hv3 hg3 hk3 HZ9
      have hSS : wz10.cell? ⟨bb, 0, none⟩ = some (.int .i64 p.kind) ∧ wz10.cell? ⟨bb, 1, none⟩ = some (.int .i64 p.n) ∧ wz10.cell? ⟨bb, 2, none⟩ = some (.string p.text) := unhide HSS _ (unhide HZ10).bel
      refine hK.out _ _ (fun _ => hSS) ?_
      clear hK K
      clear hSS
      try go_frame
      refine wpAnyT_one (i := 5) (o := zone18) (by kernel_rfl) rfl (fun K hK => ?_)
      refine wp_append_pts (W := wz10) (Operand.tmp 50) (Operand.tmp 52) rfl wd.heap.size vwz10 [] [p] (some ⟨qwz8, 0, none⟩) 1 rfl ((unhide HZ10).own_ _ _ rfl) (by simp only [List.length_cons, List.length_nil]; have := unhide HLN; omega) (unhide HZ10).bel.size rfl (row_pts (l := [p]) (by simpa [ptc] using ((unhide HZ10).lit_ _ rfl).1)) (fun ad_ cap_ wz11 hv3 hg3 hk3 => ?_)
      have HZ11 := hide ((unhide HZ10).grow hv3 hg3 hk3)
      obtain ⟨vwz11, hvwz11⟩ : ∃ z, Value.slice ad_ (([] : List Pt).length + ([p] : List Pt).length) cap_ = z := ⟨_, rfl⟩
      rw [hvwz11] at HZ11
      simp only [hvwz11]
      clear hvwz11 hv3 hg3 hk3 HZ10
      have hSS : wz11.cell? ⟨bb, 0, none⟩ = some (.int .i64 p.kind) ∧ wz11.cell? ⟨bb, 1, none⟩ = some (.int .i64 p.n) ∧ wz11.cell? ⟨bb, 2, none⟩ = some (.string p.text) := unhide HSS _ (unhide HZ11).bel
      refine hK.out _ _ (fun _ => hSS) ?_
      clear hK K
      clear hSS
      try go_frame
      have hSS : wz11.cell? ⟨bb, 0, none⟩ = some (.int .i64 p.kind) ∧ wz11.cell? ⟨bb, 1, none⟩ = some (.int .i64 p.n) ∧ wz11.cell? ⟨bb, 2, none⟩ = some (.string p.text) := unhide HSS _ (unhide HZ11).bel
      refine tk 6 (v := vwz11) rfl (Or.inl ⟨by rfl, ?_⟩) hSS ?_
      · intro w hSw
        obtain ⟨s0, s1, s2⟩ := hSw
        first
          | rfl
          | (go_simp; done)
      try go_frame
      refine wpAnyT_done (by kernel_rfl) ?_ _
      have HF := hide ((unhide HZ11).own_ _ _ rfl)
      have HFB := hide (unhide HZ11).bel
      clear HZ11 hSS hHeld
      go_wp2_with fail
      go_ret
      exact ⟨_, rfl, (unhide HEND _ _ (unhide HF) (unhide HFB)).1, (unhide HEND _ _ (unhide HF) (unhide HFB)).2⟩
  · obtain ⟨j, hj⟩ : ∃ j, L.length = j := ⟨_, rfl⟩
    obtain rfl : j + 1 = n := by rw [← hnn, hl0]; simp [hj]
    have hq : l[j]? = some q := by rw [hl0, ← hj]; simp
    have HL0 := hide hl0
    have HJL := hide hj
    have HPL : Hid (PtsAt w a L) := hide (by rw [hl0] at hp; exact hp.front)
    have hql : l.getLast? = some q := by rw [hl0]; simp
    obtain ⟨b, off, rfl, f0, f1, f2⟩ := hp.at_ (Below.refl _ _) hq
    have hbl : b < w.heap.size := by
      rcases hp with h0 | ⟨b2, off2, he, hl2, _⟩
      · rw [h0] at hq; cases hq
      · cases he; exact hl2
    have HBL := hide hbl
    have f0 := hide f0
    have f1 := hide f1
    have f2 := hide f2
    have jI : (0 : Int) ≤ (j : Int) := by omega
    have j0 : (0 : Int) < (j : Int) + 1 := by omega
    have jn : (j : Int) < (j : Int) + 1 := by omega
    have jw : IntKind.i64.wrap (j : Int) = (j : Int) := by rw [IntKind.wrap_i64]; omega
    have jm : (j : Int) + 1 ≤ 1099511627776 := by omega
    have HEQ0 : Hid (oneL l p = if q.kind = p.kind then L ++ [join2 q p] else L ++ [q] ++ [p]) := hide (by rw [hl0, oneL_snoc])
    clear hp hl0 hq hbl
    by_cases hk : q.kind = p.kind
    · have hnw := hn q hql hk
      have hkb : (q.kind == p.kind) = true := by simp [hk]
      rw [if_pos hk] at HEQ0
      clear hn hql hk
      go_enter Tryd.func55, Tryd.ntmps55
      go_wp2_with fail
      try simp only [show ((j + 1 : Nat) : Int) = (j : Int) + 1 from by push_cast; rfl]
      obtain ⟨wA, hA⟩ : ∃ wA, w.alloc (.cells #[.int .i64 p.kind, .int .i64 p.n, .string p.text] 39) = wA := ⟨_, rfl⟩
      rw [hA] at HBA HRW HPW ⊢
      clear hA
      obtain ⟨bb, hbb⟩ : ∃ bb, w.heap.size = bb := ⟨_, rfl⟩
      have HBB := hide hbb
      simp only [hbb] at HRW ⊢
      have HS2 : Hid (∀ W, Below wA.heap.size wA W → W.cell? ⟨bb, 0, none⟩ = some (.int .i64 p.kind) ∧ W.cell? ⟨b, off + j * 3, none⟩ = some (.int .i64 q.kind)) := hide (fun W hW => ⟨((unhide HRW).below hW (unhide HRW).lt).cell 0, by have h1 := unhide HBL; rw [hW.cell (p := ⟨b, _, none⟩) (Nat.lt_of_lt_of_le h1 (unhide HBA).size), (unhide HBA).cell (p := ⟨b, _, none⟩) h1]; exact unhide f0⟩)
      refine wp_region_T (S := fun W => W.cell? ⟨bb, 0, none⟩ = some (.int .i64 p.kind) ∧ W.cell? ⟨b, off + j * 3, none⟩ = some (.int .i64 q.kind)) (fun i => decide (i < 13)) (by kernel_rfl) (unhide HS2 _ (Below.refl _ _).drew) (fun hHeld => ?_)
      refine tk 0 (v := .int .i64 ((j : Int) + 1)) rfl (Or.inl ⟨by rfl, ?_⟩) hHeld ?_
      · intro w hSw
        obtain ⟨s0, s1⟩ := hSw
        first
          | rfl
          | (go_simp; done)
      try go_frame
      refine tk 1 (v := .bool true) rfl (Or.inl ⟨by rfl, ?_⟩) hHeld ?_
      · intro w hSw
        obtain ⟨s0, s1⟩ := hSw
        first
          | rfl
          | (go_simp; done)
      try go_frame
      refine tk 2 (v := .bool true) rfl (Or.inl ⟨by rfl, ?_⟩) hHeld ?_
      · intro w hSw
        obtain ⟨s0, s1⟩ := hSw
        first
          | rfl
          | (go_simp; done)
      try go_frame
      refine tk 3 (v := .slice (some ⟨b, off, none⟩) (j + 1) c) rfl (Or.inl ⟨by rfl, ?_⟩) hHeld ?_
      · intro w hSw
        obtain ⟨s0, s1⟩ := hSw
        first
          | rfl
          | (go_simp; done)
      try go_frame
      refine tk 4 (v := .int .i64 ((j : Int) + 1)) rfl (Or.inl ⟨by rfl, ?_⟩) hHeld ?_
      · intro w hSw
        obtain ⟨s0, s1⟩ := hSw
        first
          | rfl
          | (go_simp; done)
      try go_frame
      refine tk 5 (v := .int .i64 (j : Int)) rfl (Or.inl ⟨by rfl, ?_⟩) hHeld ?_
      · intro w hSw
        obtain ⟨s0, s1⟩ := hSw
        first
          | rfl
          | (go_simp; done)
      try go_frame
      refine tk 6 (v := .pointer (some ⟨b, off + j * 3, none⟩)) rfl (Or.inl ⟨by rfl, ?_⟩) hHeld ?_
      · intro w hSw
        obtain ⟨s0, s1⟩ := hSw
        first
          | rfl
          | (go_simp; done)
      try go_frame
      refine tk 7 (v := .pointer (some ⟨b, off + j * 3, none⟩)) rfl (Or.inl ⟨by rfl, ?_⟩) hHeld ?_
      · intro w hSw
        obtain ⟨s0, s1⟩ := hSw
        first
          | rfl
          | (go_simp; done)
      try go_frame
      refine tk 8 (v := .int .i64 q.kind) rfl (Or.inl ⟨by rfl, ?_⟩) hHeld ?_
      · intro w hSw
        obtain ⟨s0, s1⟩ := hSw
        first
          | rfl
          | (go_simp; done)
      try go_frame
      refine tk 9 (v := .pointer (some ⟨bb, 0, none⟩)) rfl (Or.inl ⟨by rfl, ?_⟩) hHeld ?_
      · intro w hSw
        obtain ⟨s0, s1⟩ := hSw
        first
          | rfl
          | (go_simp; done)
      try go_frame
      refine tk 10 (v := .int .i64 p.kind) rfl (Or.inl ⟨by rfl, ?_⟩) hHeld ?_
      · intro w hSw
        obtain ⟨s0, s1⟩ := hSw
        first
          | rfl
          | (go_simp; done)
      try go_frame
      refine tk 11 (v := .bool true) rfl (Or.inl ⟨by rfl, ?_⟩) hHeld ?_
      · intro w hSw
        obtain ⟨s0, s1⟩ := hSw
        first
          | rfl
          | (go_simp; done)
      try go_frame
      refine tk 12 (v := .bool true) rfl (Or.inl ⟨by rfl, ?_⟩) hHeld ?_
      · intro w hSw
        obtain ⟨s0, s1⟩ := hSw
        first
          | rfl
          | (go_simp; done)
      try go_frame
      refine wpAnyT_done (by kernel_rfl) ?_ _
      clear hHeld HS2
      obtain ⟨wB, hwB⟩ : ∃ z, wA.drew = z := ⟨_, rfl⟩
      have hbB : Below wA.heap.size wA wB := by rw [← hwB]; exact (Below.refl _ _).drew
      have HBB2 := hide hbB
      rw [hwB]
      clear hwB
      have HRW := hide ((unhide HRW).below hbB (unhide HRW).lt)
      have HBT := hide ((unhide HBA).trans (hbB.mono (unhide HBA).size))
      have r1 : wB.cell? ⟨bb, 1, none⟩ = some (.int .i64 p.n) := (unhide HRW).cell 1
      have r2 : wB.cell? ⟨bb, 2, none⟩ = some (.string p.text) := (unhide HRW).cell 2
      have g0 : wB.cell? ⟨b, off + j * 3, none⟩ = some (.int .i64 q.kind) := by rw [(unhide HBT).cell (p := ⟨b, _, none⟩) (unhide HBL)]; exact unhide f0
      have g1 : wB.cell? ⟨b, off + j * 3 + 1, none⟩ = some (.int .i64 q.n) := by rw [(unhide HBT).cell (p := ⟨b, _, none⟩) (unhide HBL)]; exact unhide f1
      have g2 : wB.cell? ⟨b, off + j * 3 + 2, none⟩ = some (.string q.text) := by rw [(unhide HBT).cell (p := ⟨b, _, none⟩) (unhide HBL)]; exact unhide f2
      have hsum : ¬ ((q.text.size + p.text.size : Nat) : Int) > IntKind.i64.max := by have := hnw.2.2; rw [show IntKind.i64.max = 9223372036854775807 from rfl]; omega
      have hwr : wrap64 (q.n + p.n) = q.n + p.n := by unfold wrap64; omega
      have hbs : bb < wB.heap.size := (unhide HRW).lt
      have hbn : bb ≠ wB.heap.size := by omega
      have hbn2 : wB.heap.size ≠ bb := by omega
      clear hbB HBB2
      go_wp2_with fail
      obtain ⟨J, hJ⟩ : ∃ z, join2 q p = z := ⟨_, rfl⟩
      have HEQ : Hid (oneL l p = L ++ [J]) := hide (by rw [unhide HEQ0, hJ])
      rw [show q.kind = J.kind from by rw [← hJ]; rfl, show q.n + p.n = J.n from by rw [← hJ]; rfl, show q.text ++ p.text = J.text from by rw [← hJ]; rfl]
      have hbC : Below wB.heap.size wB (wB.alloc (.cells #[.int .i64 J.kind, .int .i64 J.n, .string J.text] 39)) := (Below.refl _ _).alloc (Nat.le_refl _) _
      have HRW := hide (RowAt.new wB 39 [.int .i64 J.kind, .int .i64 J.n, .string J.text])
      have HBC := hide ((unhide HBT).trans (hbC.mono (unhide HBT).size))
      obtain ⟨wC, hwC⟩ : ∃ z, wB.alloc (.cells #[.int .i64 J.kind, .int .i64 J.n, .string J.text] 39) = z := ⟨_, rfl⟩
      obtain ⟨gq, hgq⟩ : ∃ z, wB.heap.size = z := ⟨_, rfl⟩
      rw [hwC] at HRW HBC ⊢
      simp only [hgq] at HRW ⊢
      clear hJ HEQ0 hwC hgq hbC r1 r2 g0 g1 g2 hsum hwr hbs hbn hbn2 hnw
      obtain ⟨wd, hwd⟩ : ∃ z, wC.drew = z := ⟨_, rfl⟩
      have hbd : Below wC.heap.size wC wd := by rw [← hwd]; exact (Below.refl _ _).drew
      have HRW := hide ((unhide HRW).below hbd (unhide HRW).lt)
      have HSS : Hid (∀ W, Below wd.heap.size wd W → W.cell? ⟨gq, 0, none⟩ = some (.int .i64 J.kind) ∧ W.cell? ⟨gq, 1, none⟩ = some (.int .i64 J.n) ∧ W.cell? ⟨gq, 2, none⟩ = some (.string J.text)) := hide (fun W hW => ⟨((unhide HRW).below hW (unhide HRW).lt).cell 0, ((unhide HRW).below hW (unhide HRW).lt).cell 1, ((unhide HRW).below hW (unhide HRW).lt).cell 2⟩)
      have HBW : Hid (Below w.heap.size w wd) := hide ((unhide HBC).trans (hbd.mono (unhide HBC).size))
      have HPT : Hid (∀ W, Below wd.heap.size wd W → PtsAt W (some ⟨b, off, none⟩) L) := hide (fun W hW => (((unhide HPL).call (unhide HBW)).call hW))
      have HEND : Hid (∀ v W, OwnP W wd.heap.size v (L ++ [J]) → Below wd.heap.size wd W → OwnP W w.heap.size v (oneL l p) ∧ Below w.heap.size w W) := hide (fun v W h1 h2 => ⟨by rw [unhide HEQ]; exact own_base h1 (unhide HBW).size, (unhide HBW).trans (h2.mono (unhide HBW).size)⟩)
      have HLN : Hid (L.length ≤ 1099511627776) := hide (by rw [unhide HJL]; omega)
      have HLN2 : Hid (L.length = j) := HJL
      have hjc : (j : Int) ≤ (c : Int) := by omega
      have hjc2 : j ≤ c := by omega
      clear HPW HBA hbd HBC HBT
      have HA0 := hide (AP.start wd J)
      refine wp_region_T (S := fun W => W.cell? ⟨gq, 0, none⟩ = some (.int .i64 J.kind) ∧ W.cell? ⟨gq, 1, none⟩ = some (.int .i64 J.n) ∧ W.cell? ⟨gq, 2, none⟩ = some (.string J.text)) (fun i => decide (i < 10)) (by kernel_rfl) (by rw [hwd]; exact unhide HSS _ (Below.refl _ _)) (fun hHeld => ?_)
      rw [hwd] at hHeld ⊢
      clear hwd
      refine tk 1 (v := .slice (some ⟨b, off, none⟩) (j + 1) c) rfl (Or.inl ⟨by rfl, ?_⟩) hHeld ?_
      · intro w hSw
        obtain ⟨s0, s1, s2⟩ := hSw
        first
          | rfl
          | (go_simp; done)
      try go_frame
      refine tk 2 (v := .int .i64 ((j : Int) + 1)) rfl (Or.inl ⟨by rfl, ?_⟩) hHeld ?_
      · intro w hSw
        obtain ⟨s0, s1, s2⟩ := hSw
        first
          | rfl
          | (go_simp; done)
      try go_frame
      refine tk 3 (v := .int .i64 (j : Int)) rfl (Or.inl ⟨by rfl, ?_⟩) hHeld ?_
      · intro w hSw
        obtain ⟨s0, s1, s2⟩ := hSw
        first
          | rfl
          | (go_simp; done)
      try go_frame
      refine tk 4 (v := .slice (some ⟨b, off, none⟩) j c) rfl (Or.inl ⟨by rfl, ?_⟩) hHeld ?_
      · intro w hSw
        obtain ⟨s0, s1, s2⟩ := hSw
        first
          | rfl
          | (go_simp; done)
      try go_frame
      refine tk 6 (v := .agg #[.int .i64 J.kind, .int .i64 J.n, .string J.text]) rfl (Or.inl ⟨by rfl, ?_⟩) hHeld ?_
      · intro w hSw
        obtain ⟨s0, s1, s2⟩ := hSw
        first
          | rfl
          | (go_simp; done)
      try go_frame
      refine anyT_two (i := 0) (j := 7) (oi := zone20) (oj := zone21) (by kernel_rfl) rfl rfl (fun K hK => ?_) (fun K hK => ?_)
      · skip
        go_simp
        have HZ1 := hide (unhide HA0).build
        obtain ⟨wz1, hwz1⟩ : ∃ z, wd.alloc (.cells #[] 39) = z := ⟨_, rfl⟩
        obtain ⟨vwz1, hvwz1⟩ : ∃ z, Value.slice (some ⟨wd.heap.size, 0, none⟩) 0 0 = z := ⟨_, rfl⟩
        rw [hwz1, hvwz1] at HZ1
        simp only [hwz1, hvwz1]
        clear hwz1 hvwz1 HA0
        have hSS : wz1.cell? ⟨gq, 0, none⟩ = some (.int .i64 J.kind) ∧ wz1.cell? ⟨gq, 1, none⟩ = some (.int .i64 J.n) ∧ wz1.cell? ⟨gq, 2, none⟩ = some (.string J.text) := unhide HSS _ (unhide HZ1).bel
        refine hK.out _ _ (fun _ => hSS) ?_
        clear hK K
        clear hSS
        try go_frame
        refine anyT_two (i := 5) (j := 7) (oi := zone22) (oj := zone21) (by kernel_rfl) rfl rfl (fun K hK => ?_) (fun K hK => ?_)
        · skip
          refine wp_append_pts (W := wz1) (Operand.tmp 39) (Operand.tmp 43) rfl wd.heap.size vwz1 [] L (some ⟨b, off, none⟩) c rfl ((unhide HZ1).own_ _ _ rfl) (by simp only [List.length_nil]; have := unhide HLN; omega) (unhide HZ1).bel.size (by simp only [unhide HLN2]; rfl) (unhide HPT _ (unhide HZ1).bel) (fun ad_ cap_ wz2 hv3 hg3 hk3 => ?_)
          have HZ2 := hide ((unhide HZ1).grow hv3 hg3 hk3)
          obtain ⟨vwz2, hvwz2⟩ : ∃ z, Value.slice ad_ (([] : List Pt).length + (L : List Pt).length) cap_ = z := ⟨_, rfl⟩
          rw [hvwz2] at HZ2
          simp only [hvwz2]
          clear hvwz2 hv3 hg3 hk3 HZ1
          have hSS : wz2.cell? ⟨gq, 0, none⟩ = some (.int .i64 J.kind) ∧ wz2.cell? ⟨gq, 1, none⟩ = some (.int .i64 J.n) ∧ wz2.cell? ⟨gq, 2, none⟩ = some (.string J.text) := unhide HSS _ (unhide HZ2).bel
          refine hK.out _ _ (fun _ => hSS) ?_
          clear hK K
          clear hSS
          try go_frame
          refine wpAnyT_one (i := 7) (o := zone21) (by kernel_rfl) rfl (fun K hK => ?_)
          try simp only [pv]
          go_simp
          have HZ3 := hide (unhide HZ2).lit
          obtain ⟨wz3, hwz3⟩ : ∃ z, wz2.alloc (.cells #[.int .i64 J.kind, .int .i64 J.n, .string J.text] 39) = z := ⟨_, rfl⟩
          obtain ⟨qwz3, hqwz3⟩ : ∃ z, wz2.heap.size = z := ⟨_, rfl⟩
          rw [hwz3, hqwz3] at HZ3
          simp only [hwz3, hqwz3]
          clear hwz3 hqwz3 HZ2
          have hSS : wz3.cell? ⟨gq, 0, none⟩ = some (.int .i64 J.kind) ∧ wz3.cell? ⟨gq, 1, none⟩ = some (.int .i64 J.n) ∧ wz3.cell? ⟨gq, 2, none⟩ = some (.string J.text) := unhide HSS _ (unhide HZ3).bel
          refine hK.out _ _ (fun _ => hSS) ?_
          clear hK K
          clear hSS
          try go_frame
          refine wpAnyT_one (i := 8) (o := zone23) (by kernel_rfl) rfl (fun K hK => ?_)
          refine wp_append_pts (W := wz3) (Operand.tmp 44) (Operand.tmp 46) rfl wd.heap.size vwz2 L [J] (some ⟨qwz3, 0, none⟩) 1 rfl ((unhide HZ3).own_ _ _ rfl) (by simp only [List.length_cons, List.length_nil]; have := unhide HLN; omega) (unhide HZ3).bel.size rfl (row_pts (l := [J]) (by simpa [ptc] using ((unhide HZ3).lit_ _ rfl).1)) (fun ad_ cap_ wz4 hv3 hg3 hk3 => ?_)
          have HZ4 := hide ((unhide HZ3).grow hv3 hg3 hk3)
          obtain ⟨vwz4, hvwz4⟩ : ∃ z, Value.slice ad_ ((L : List Pt).length + ([J] : List Pt).length) cap_ = z := ⟨_, rfl⟩
          rw [hvwz4] at HZ4
          simp only [hvwz4]
          clear hvwz4 hv3 hg3 hk3 HZ3
          have hSS : wz4.cell? ⟨gq, 0, none⟩ = some (.int .i64 J.kind) ∧ wz4.cell? ⟨gq, 1, none⟩ = some (.int .i64 J.n) ∧ wz4.cell? ⟨gq, 2, none⟩ = some (.string J.text) := unhide HSS _ (unhide HZ4).bel
          refine hK.out _ _ (fun _ => hSS) ?_
          clear hK K
          clear hSS
          try go_frame
          have hSS : wz4.cell? ⟨gq, 0, none⟩ = some (.int .i64 J.kind) ∧ wz4.cell? ⟨gq, 1, none⟩ = some (.int .i64 J.n) ∧ wz4.cell? ⟨gq, 2, none⟩ = some (.string J.text) := unhide HSS _ (unhide HZ4).bel
          refine tk 9 (v := vwz4) rfl (Or.inl ⟨by rfl, ?_⟩) hSS ?_
          · intro w hSw
            obtain ⟨s0, s1, s2⟩ := hSw
            first
              | rfl
              | (go_simp; done)
          try go_frame
          refine wpAnyT_done (by kernel_rfl) ?_ _
          have HF := hide ((unhide HZ4).own_ _ _ rfl)
          have HFB := hide (unhide HZ4).bel
          clear HZ4 hSS hHeld
          go_wp2_with fail
          go_ret
          exact ⟨_, rfl, (unhide HEND _ _ (unhide HF) (unhide HFB)).1, (unhide HEND _ _ (unhide HF) (unhide HFB)).2⟩
        · skip
          try simp only [pv]
          go_simp
          have HZ5 := hide (unhide HZ1).lit
          obtain ⟨wz5, hwz5⟩ : ∃ z, wz1.alloc (.cells #[.int .i64 J.kind, .int .i64 J.n, .string J.text] 39) = z := ⟨_, rfl⟩
          obtain ⟨qwz5, hqwz5⟩ : ∃ z, wz1.heap.size = z := ⟨_, rfl⟩
          rw [hwz5, hqwz5] at HZ5
          simp only [hwz5, hqwz5]
          clear hwz5 hqwz5 HZ1
          have hSS : wz5.cell? ⟨gq, 0, none⟩ = some (.int .i64 J.kind) ∧ wz5.cell? ⟨gq, 1, none⟩ = some (.int .i64 J.n) ∧ wz5.cell? ⟨gq, 2, none⟩ = some (.string J.text) := unhide HSS _ (unhide HZ5).bel
          refine hK.out _ _ (fun _ => hSS) ?_
          clear hK K
          clear hSS
          try go_frame
          refine wpAnyT_one (i := 5) (o := zone22) (by kernel_rfl) rfl (fun K hK => ?_)
          refine wp_append_pts (W := wz5) (Operand.tmp 39) (Operand.tmp 43) rfl wd.heap.size vwz1 [] L (some ⟨b, off, none⟩) c rfl ((unhide HZ5).own_ _ _ rfl) (by simp only [List.length_nil]; have := unhide HLN; omega) (unhide HZ5).bel.size (by simp only [unhide HLN2]; rfl) (unhide HPT _ (unhide HZ5).bel) (fun ad_ cap_ wz6 hv3 hg3 hk3 => ?_)
          have HZ6 := hide ((unhide HZ5).grow hv3 hg3 hk3)
          obtain ⟨vwz6, hvwz6⟩ : ∃ z, Value.slice ad_ (([] : List Pt).length + (L : List Pt).length) cap_ = z := ⟨_, rfl⟩
          rw [hvwz6] at HZ6
          simp only [hvwz6]
          clear hvwz6 hv3 hg3 hk3 HZ5
          have hSS : wz6.cell? ⟨gq, 0, none⟩ = some (.int .i64 J.kind) ∧ wz6.cell? ⟨gq, 1, none⟩ = some (.int .i64 J.n) ∧ wz6.cell? ⟨gq, 2, none⟩ = some (.string J.text) := unhide HSS _ (unhide HZ6).bel
          refine hK.out _ _ (fun _ => hSS) ?_
          clear hK K
          clear hSS
          try go_frame
          refine wpAnyT_one (i := 8) (o := zone23) (by kernel_rfl) rfl (fun K hK => ?_)
          refine wp_append_pts (W := wz6) (Operand.tmp 44) (Operand.tmp 46) rfl wd.heap.size vwz6 L [J] (some ⟨qwz5, 0, none⟩) 1 rfl ((unhide HZ6).own_ _ _ rfl) (by simp only [List.length_cons, List.length_nil]; have := unhide HLN; omega) (unhide HZ6).bel.size rfl (row_pts (l := [J]) (by simpa [ptc] using ((unhide HZ6).lit_ _ rfl).1)) (fun ad_ cap_ wz7 hv3 hg3 hk3 => ?_)
          have HZ7 := hide ((unhide HZ6).grow hv3 hg3 hk3)
          obtain ⟨vwz7, hvwz7⟩ : ∃ z, Value.slice ad_ ((L : List Pt).length + ([J] : List Pt).length) cap_ = z := ⟨_, rfl⟩
          rw [hvwz7] at HZ7
          simp only [hvwz7]
          clear hvwz7 hv3 hg3 hk3 HZ6
          have hSS : wz7.cell? ⟨gq, 0, none⟩ = some (.int .i64 J.kind) ∧ wz7.cell? ⟨gq, 1, none⟩ = some (.int .i64 J.n) ∧ wz7.cell? ⟨gq, 2, none⟩ = some (.string J.text) := unhide HSS _ (unhide HZ7).bel
          refine hK.out _ _ (fun _ => hSS) ?_
          clear hK K
          clear hSS
          try go_frame
          have hSS : wz7.cell? ⟨gq, 0, none⟩ = some (.int .i64 J.kind) ∧ wz7.cell? ⟨gq, 1, none⟩ = some (.int .i64 J.n) ∧ wz7.cell? ⟨gq, 2, none⟩ = some (.string J.text) := unhide HSS _ (unhide HZ7).bel
          refine tk 9 (v := vwz7) rfl (Or.inl ⟨by rfl, ?_⟩) hSS ?_
          · intro w hSw
            obtain ⟨s0, s1, s2⟩ := hSw
            first
              | rfl
              | (go_simp; done)
          try go_frame
          refine wpAnyT_done (by kernel_rfl) ?_ _
          have HF := hide ((unhide HZ7).own_ _ _ rfl)
          have HFB := hide (unhide HZ7).bel
          clear HZ7 hSS hHeld
          go_wp2_with fail
          go_ret
          exact ⟨_, rfl, (unhide HEND _ _ (unhide HF) (unhide HFB)).1, (unhide HEND _ _ (unhide HF) (unhide HFB)).2⟩
      · skip
        try simp only [pv]
        go_simp
        have HZ8 := hide (unhide HA0).lit
        obtain ⟨wz8, hwz8⟩ : ∃ z, wd.alloc (.cells #[.int .i64 J.kind, .int .i64 J.n, .string J.text] 39) = z := ⟨_, rfl⟩
        obtain ⟨qwz8, hqwz8⟩ : ∃ z, wd.heap.size = z := ⟨_, rfl⟩
        rw [hwz8, hqwz8] at HZ8
        simp only [hwz8, hqwz8]
        clear hwz8 hqwz8 HA0
        have hSS : wz8.cell? ⟨gq, 0, none⟩ = some (.int .i64 J.kind) ∧ wz8.cell? ⟨gq, 1, none⟩ = some (.int .i64 J.n) ∧ wz8.cell? ⟨gq, 2, none⟩ = some (.string J.text) := unhide HSS _ (unhide HZ8).bel
        refine hK.out _ _ (fun _ => hSS) ?_
        clear hK K
        clear hSS
        try go_frame
        refine wpAnyT_one (i := 0) (o := zone20) (by kernel_rfl) rfl (fun K hK => ?_)
        go_simp
        have HZ9 := hide (unhide HZ8).build
        obtain ⟨wz9, hwz9⟩ : ∃ z, wz8.alloc (.cells #[] 39) = z := ⟨_, rfl⟩
        obtain ⟨vwz9, hvwz9⟩ : ∃ z, Value.slice (some ⟨wz8.heap.size, 0, none⟩) 0 0 = z := ⟨_, rfl⟩
        rw [hwz9, hvwz9] at HZ9
        simp only [hwz9, hvwz9]
        clear hwz9 hvwz9 HZ8
        have hSS : wz9.cell? ⟨gq, 0, none⟩ = some (.int .i64 J.kind) ∧ wz9.cell? ⟨gq, 1, none⟩ = some (.int .i64 J.n) ∧ wz9.cell? ⟨gq, 2, none⟩ = some (.string J.text) := unhide HSS _ (unhide HZ9).bel
        refine hK.out _ _ (fun _ => hSS) ?_
        clear hK K
        clear hSS
        try go_frame
        refine wpAnyT_one (i := 5) (o := zone22) (by kernel_rfl) rfl (fun K hK => ?_)
        refine wp_append_pts (W := wz9) (Operand.tmp 39) (Operand.tmp 43) rfl wd.heap.size vwz9 [] L (some ⟨b, off, none⟩) c rfl ((unhide HZ9).own_ _ _ rfl) (by simp only [List.length_nil]; have := unhide HLN; omega) (unhide HZ9).bel.size (by simp only [unhide HLN2]; rfl) (unhide HPT _ (unhide HZ9).bel) (fun ad_ cap_ wz10 hv3 hg3 hk3 => ?_)
        have HZ10 := hide ((unhide HZ9).grow hv3 hg3 hk3)
        obtain ⟨vwz10, hvwz10⟩ : ∃ z, Value.slice ad_ (([] : List Pt).length + (L : List Pt).length) cap_ = z := ⟨_, rfl⟩
        rw [hvwz10] at HZ10
        simp only [hvwz10]
        clear hvwz10 hv3 hg3 hk3 HZ9
        have hSS : wz10.cell? ⟨gq, 0, none⟩ = some (.int .i64 J.kind) ∧ wz10.cell? ⟨gq, 1, none⟩ = some (.int .i64 J.n) ∧ wz10.cell? ⟨gq, 2, none⟩ = some (.string J.text) := unhide HSS _ (unhide HZ10).bel
        refine hK.out _ _ (fun _ => hSS) ?_
        clear hK K
        clear hSS
        try go_frame
        refine wpAnyT_one (i := 8) (o := zone23) (by kernel_rfl) rfl (fun K hK => ?_)
        refine wp_append_pts (W := wz10) (Operand.tmp 44) (Operand.tmp 46) rfl wd.heap.size vwz10 L [J] (some ⟨qwz8, 0, none⟩) 1 rfl ((unhide HZ10).own_ _ _ rfl) (by simp only [List.length_cons, List.length_nil]; have := unhide HLN; omega) (unhide HZ10).bel.size rfl (row_pts (l := [J]) (by simpa [ptc] using ((unhide HZ10).lit_ _ rfl).1)) (fun ad_ cap_ wz11 hv3 hg3 hk3 => ?_)
        have HZ11 := hide ((unhide HZ10).grow hv3 hg3 hk3)
        obtain ⟨vwz11, hvwz11⟩ : ∃ z, Value.slice ad_ ((L : List Pt).length + ([J] : List Pt).length) cap_ = z := ⟨_, rfl⟩
        rw [hvwz11] at HZ11
        simp only [hvwz11]
        clear hvwz11 hv3 hg3 hk3 HZ10
        have hSS : wz11.cell? ⟨gq, 0, none⟩ = some (.int .i64 J.kind) ∧ wz11.cell? ⟨gq, 1, none⟩ = some (.int .i64 J.n) ∧ wz11.cell? ⟨gq, 2, none⟩ = some (.string J.text) := unhide HSS _ (unhide HZ11).bel
        refine hK.out _ _ (fun _ => hSS) ?_
        clear hK K
        clear hSS
        try go_frame
        have hSS : wz11.cell? ⟨gq, 0, none⟩ = some (.int .i64 J.kind) ∧ wz11.cell? ⟨gq, 1, none⟩ = some (.int .i64 J.n) ∧ wz11.cell? ⟨gq, 2, none⟩ = some (.string J.text) := unhide HSS _ (unhide HZ11).bel
        refine tk 9 (v := vwz11) rfl (Or.inl ⟨by rfl, ?_⟩) hSS ?_
        · intro w hSw
          obtain ⟨s0, s1, s2⟩ := hSw
          first
            | rfl
            | (go_simp; done)
        try go_frame
        refine wpAnyT_done (by kernel_rfl) ?_ _
        have HF := hide ((unhide HZ11).own_ _ _ rfl)
        have HFB := hide (unhide HZ11).bel
        clear HZ11 hSS hHeld
        go_wp2_with fail
        go_ret
        exact ⟨_, rfl, (unhide HEND _ _ (unhide HF) (unhide HFB)).1, (unhide HEND _ _ (unhide HF) (unhide HFB)).2⟩
    · have hkb : (q.kind == p.kind) = false := by simp [hk]
      rw [if_neg hk] at HEQ0
      have HEQ : Hid (oneL l p = l ++ [p]) := hide (by rw [unhide HEQ0, ← unhide HL0])
      clear hn hql hk HEQ0 HL0
      go_enter Tryd.func55, Tryd.ntmps55
      go_wp2_with fail
      try simp only [show ((j + 1 : Nat) : Int) = (j : Int) + 1 from by push_cast; rfl]
      obtain ⟨wA, hA⟩ : ∃ wA, w.alloc (.cells #[.int .i64 p.kind, .int .i64 p.n, .string p.text] 39) = wA := ⟨_, rfl⟩
      rw [hA] at HBA HRW HPW ⊢
      clear hA
      obtain ⟨bb, hbb⟩ : ∃ bb, w.heap.size = bb := ⟨_, rfl⟩
      have HBB := hide hbb
      simp only [hbb] at HRW ⊢
      have HS2 : Hid (∀ W, Below wA.heap.size wA W → W.cell? ⟨bb, 0, none⟩ = some (.int .i64 p.kind) ∧ W.cell? ⟨b, off + j * 3, none⟩ = some (.int .i64 q.kind)) := hide (fun W hW => ⟨((unhide HRW).below hW (unhide HRW).lt).cell 0, by have h1 := unhide HBL; rw [hW.cell (p := ⟨b, _, none⟩) (Nat.lt_of_lt_of_le h1 (unhide HBA).size), (unhide HBA).cell (p := ⟨b, _, none⟩) h1]; exact unhide f0⟩)
      refine wp_region_T (S := fun W => W.cell? ⟨bb, 0, none⟩ = some (.int .i64 p.kind) ∧ W.cell? ⟨b, off + j * 3, none⟩ = some (.int .i64 q.kind)) (fun i => decide (i < 13)) (by kernel_rfl) (unhide HS2 _ (Below.refl _ _).drew) (fun hHeld => ?_)
      refine tk 0 (v := .int .i64 ((j : Int) + 1)) rfl (Or.inl ⟨by rfl, ?_⟩) hHeld ?_
      · intro w hSw
        obtain ⟨s0, s1⟩ := hSw
        first
          | rfl
          | (go_simp; done)
      try go_frame
      refine tk 1 (v := .bool true) rfl (Or.inl ⟨by rfl, ?_⟩) hHeld ?_
      · intro w hSw
        obtain ⟨s0, s1⟩ := hSw
        first
          | rfl
          | (go_simp; done)
      try go_frame
      refine tk 2 (v := .bool true) rfl (Or.inl ⟨by rfl, ?_⟩) hHeld ?_
      · intro w hSw
        obtain ⟨s0, s1⟩ := hSw
        first
          | rfl
          | (go_simp; done)
      try go_frame
      refine tk 3 (v := .slice (some ⟨b, off, none⟩) (j + 1) c) rfl (Or.inl ⟨by rfl, ?_⟩) hHeld ?_
      · intro w hSw
        obtain ⟨s0, s1⟩ := hSw
        first
          | rfl
          | (go_simp; done)
      try go_frame
      refine tk 4 (v := .int .i64 ((j : Int) + 1)) rfl (Or.inl ⟨by rfl, ?_⟩) hHeld ?_
      · intro w hSw
        obtain ⟨s0, s1⟩ := hSw
        first
          | rfl
          | (go_simp; done)
      try go_frame
      refine tk 5 (v := .int .i64 (j : Int)) rfl (Or.inl ⟨by rfl, ?_⟩) hHeld ?_
      · intro w hSw
        obtain ⟨s0, s1⟩ := hSw
        first
          | rfl
          | (go_simp; done)
      try go_frame
      refine tk 6 (v := .pointer (some ⟨b, off + j * 3, none⟩)) rfl (Or.inl ⟨by rfl, ?_⟩) hHeld ?_
      · intro w hSw
        obtain ⟨s0, s1⟩ := hSw
        first
          | rfl
          | (go_simp; done)
      try go_frame
      refine tk 7 (v := .pointer (some ⟨b, off + j * 3, none⟩)) rfl (Or.inl ⟨by rfl, ?_⟩) hHeld ?_
      · intro w hSw
        obtain ⟨s0, s1⟩ := hSw
        first
          | rfl
          | (go_simp; done)
      try go_frame
      refine tk 8 (v := .int .i64 q.kind) rfl (Or.inl ⟨by rfl, ?_⟩) hHeld ?_
      · intro w hSw
        obtain ⟨s0, s1⟩ := hSw
        first
          | rfl
          | (go_simp; done)
      try go_frame
      refine tk 9 (v := .pointer (some ⟨bb, 0, none⟩)) rfl (Or.inl ⟨by rfl, ?_⟩) hHeld ?_
      · intro w hSw
        obtain ⟨s0, s1⟩ := hSw
        first
          | rfl
          | (go_simp; done)
      try go_frame
      refine tk 10 (v := .int .i64 p.kind) rfl (Or.inl ⟨by rfl, ?_⟩) hHeld ?_
      · intro w hSw
        obtain ⟨s0, s1⟩ := hSw
        first
          | rfl
          | (go_simp; done)
      try go_frame
      refine tk 11 (v := .bool false) rfl (Or.inl ⟨by rfl, ?_⟩) hHeld ?_
      · intro w hSw
        obtain ⟨s0, s1⟩ := hSw
        first
          | rfl
          | (go_simp; done)
      try go_frame
      refine tk 12 (v := .bool false) rfl (Or.inl ⟨by rfl, ?_⟩) hHeld ?_
      · intro w hSw
        obtain ⟨s0, s1⟩ := hSw
        first
          | rfl
          | (go_simp; done)
      try go_frame
      refine wpAnyT_done (by kernel_rfl) ?_ _
      clear hHeld HS2
      go_wp2_with fail
      obtain ⟨wd, hwd⟩ : ∃ z, wA.drew.drew = z := ⟨_, rfl⟩
      have hbd : Below wA.heap.size wA wd := by rw [← hwd]; exact (Below.refl _ _).drew.drew
      have HRW := hide ((unhide HRW).below hbd (unhide HRW).lt)
      have HSS : Hid (∀ W, Below wd.heap.size wd W → W.cell? ⟨bb, 0, none⟩ = some (.int .i64 p.kind) ∧ W.cell? ⟨bb, 1, none⟩ = some (.int .i64 p.n) ∧ W.cell? ⟨bb, 2, none⟩ = some (.string p.text)) := hide (fun W hW => ⟨((unhide HRW).below hW (unhide HRW).lt).cell 0, ((unhide HRW).below hW (unhide HRW).lt).cell 1, ((unhide HRW).below hW (unhide HRW).lt).cell 2⟩)
      have HPT : Hid (∀ W, Below wd.heap.size wd W → PtsAt W (some ⟨b, off, none⟩) l) := hide (fun W hW => ((unhide HPW).call hbd).call hW)
      have HBW : Hid (Below w.heap.size w wd) := hide ((unhide HBA).trans (hbd.mono (unhide HBA).size))
      have HEND : Hid (∀ v W, OwnP W wd.heap.size v (l ++ [p]) → Below wd.heap.size wd W → OwnP W w.heap.size v (oneL l p) ∧ Below w.heap.size w W) := hide (fun v W h1 h2 => ⟨by rw [unhide HEQ]; exact own_base h1 (unhide HBW).size, (unhide HBW).trans (h2.mono (unhide HBW).size)⟩)
      clear HPW HBA hbd
      have HA0 := hide (AP.start wd p)
      refine wp_region_T (S := fun W => W.cell? ⟨bb, 0, none⟩ = some (.int .i64 p.kind) ∧ W.cell? ⟨bb, 1, none⟩ = some (.int .i64 p.n) ∧ W.cell? ⟨bb, 2, none⟩ = some (.string p.text)) (fun i => decide (i < 7)) (by kernel_rfl) (by rw [hwd]; exact unhide HSS _ (Below.refl _ _)) (fun hHeld => ?_)
      rw [hwd] at hHeld ⊢
      clear hwd
      refine tk 1 (v := .slice (some ⟨b, off, none⟩) (j + 1) c) rfl (Or.inl ⟨by rfl, ?_⟩) hHeld ?_
      · intro w hSw
        obtain ⟨s0, s1, s2⟩ := hSw
        first
          | rfl
          | (go_simp; done)
      try go_frame
      refine tk 3 (v := .agg #[.int .i64 p.kind, .int .i64 p.n, .string p.text]) rfl (Or.inl ⟨by rfl, ?_⟩) hHeld ?_
      · intro w hSw
        obtain ⟨s0, s1, s2⟩ := hSw
        first
          | rfl
          | (go_simp; done)
      try go_frame
      refine anyT_two (i := 0) (j := 4) (oi := zone15) (oj := zone16) (by kernel_rfl) rfl rfl (fun K hK => ?_) (fun K hK => ?_)
      · skip
        go_simp
        have HZ1 := hide (unhide HA0).build
        obtain ⟨wz1, hwz1⟩ : ∃ z, wd.alloc (.cells #[] 39) = z := ⟨_, rfl⟩
        obtain ⟨vwz1, hvwz1⟩ : ∃ z, Value.slice (some ⟨wd.heap.size, 0, none⟩) 0 0 = z := ⟨_, rfl⟩
        rw [hwz1, hvwz1] at HZ1
        simp only [hwz1, hvwz1]
        clear hwz1 hvwz1 HA0
        have hSS : wz1.cell? ⟨bb, 0, none⟩ = some (.int .i64 p.kind) ∧ wz1.cell? ⟨bb, 1, none⟩ = some (.int .i64 p.n) ∧ wz1.cell? ⟨bb, 2, none⟩ = some (.string p.text) := unhide HSS _ (unhide HZ1).bel
        refine hK.out _ _ (fun _ => hSS) ?_
        clear hK K
        clear hSS
        try go_frame
        refine anyT_two (i := 2) (j := 4) (oi := zone17) (oj := zone16) (by kernel_rfl) rfl rfl (fun K hK => ?_) (fun K hK => ?_)
        · skip
          refine wp_append_pts (W := wz1) (Operand.tmp 48) (Operand.tmp 49) rfl wd.heap.size vwz1 [] l (some ⟨b, off, none⟩) c rfl ((unhide HZ1).own_ _ _ rfl) (by simp only [List.length_nil]; have := unhide HLN; omega) (unhide HZ1).bel.size (by simp only [unhide HLN2]; rfl) (unhide HPT _ (unhide HZ1).bel) (fun ad_ cap_ wz2 hv3 hg3 hk3 => ?_)
          have HZ2 := hide ((unhide HZ1).grow hv3 hg3 hk3)
          obtain ⟨vwz2, hvwz2⟩ : ∃ z, Value.slice ad_ (([] : List Pt).length + (l : List Pt).length) cap_ = z := ⟨_, rfl⟩
          rw [hvwz2] at HZ2
          simp only [hvwz2]
          clear hvwz2 hv3 hg3 hk3 HZ1
          have hSS : wz2.cell? ⟨bb, 0, none⟩ = some (.int .i64 p.kind) ∧ wz2.cell? ⟨bb, 1, none⟩ = some (.int .i64 p.n) ∧ wz2.cell? ⟨bb, 2, none⟩ = some (.string p.text) := unhide HSS _ (unhide HZ2).bel
          refine hK.out _ _ (fun _ => hSS) ?_
          clear hK K
          clear hSS
          try go_frame
          refine wpAnyT_one (i := 4) (o := zone16) (by kernel_rfl) rfl (fun K hK => ?_)
          try simp only [pv]
          go_simp
          have HZ3 := hide (unhide HZ2).lit
          obtain ⟨wz3, hwz3⟩ : ∃ z, wz2.alloc (.cells #[.int .i64 p.kind, .int .i64 p.n, .string p.text] 39) = z := ⟨_, rfl⟩
          obtain ⟨qwz3, hqwz3⟩ : ∃ z, wz2.heap.size = z := ⟨_, rfl⟩
          rw [hwz3, hqwz3] at HZ3
          simp only [hwz3, hqwz3]
          clear hwz3 hqwz3 HZ2
          have hSS : wz3.cell? ⟨bb, 0, none⟩ = some (.int .i64 p.kind) ∧ wz3.cell? ⟨bb, 1, none⟩ = some (.int .i64 p.n) ∧ wz3.cell? ⟨bb, 2, none⟩ = some (.string p.text) := unhide HSS _ (unhide HZ3).bel
          refine hK.out _ _ (fun _ => hSS) ?_
          clear hK K
          clear hSS
          try go_frame
          refine wpAnyT_one (i := 5) (o := zone18) (by kernel_rfl) rfl (fun K hK => ?_)
          refine wp_append_pts (W := wz3) (Operand.tmp 50) (Operand.tmp 52) rfl wd.heap.size vwz2 l [p] (some ⟨qwz3, 0, none⟩) 1 rfl ((unhide HZ3).own_ _ _ rfl) (by simp only [List.length_cons, List.length_nil]; have := unhide HLN; omega) (unhide HZ3).bel.size rfl (row_pts (l := [p]) (by simpa [ptc] using ((unhide HZ3).lit_ _ rfl).1)) (fun ad_ cap_ wz4 hv3 hg3 hk3 => ?_)
          have HZ4 := hide ((unhide HZ3).grow hv3 hg3 hk3)
          obtain ⟨vwz4, hvwz4⟩ : ∃ z, Value.slice ad_ ((l : List Pt).length + ([p] : List Pt).length) cap_ = z := ⟨_, rfl⟩
          rw [hvwz4] at HZ4
          simp only [hvwz4]
          clear hvwz4 hv3 hg3 hk3 HZ3
          have hSS : wz4.cell? ⟨bb, 0, none⟩ = some (.int .i64 p.kind) ∧ wz4.cell? ⟨bb, 1, none⟩ = some (.int .i64 p.n) ∧ wz4.cell? ⟨bb, 2, none⟩ = some (.string p.text) := unhide HSS _ (unhide HZ4).bel
          refine hK.out _ _ (fun _ => hSS) ?_
          clear hK K
          clear hSS
          try go_frame
          have hSS : wz4.cell? ⟨bb, 0, none⟩ = some (.int .i64 p.kind) ∧ wz4.cell? ⟨bb, 1, none⟩ = some (.int .i64 p.n) ∧ wz4.cell? ⟨bb, 2, none⟩ = some (.string p.text) := unhide HSS _ (unhide HZ4).bel
          refine tk 6 (v := vwz4) rfl (Or.inl ⟨by rfl, ?_⟩) hSS ?_
          · intro w hSw
            obtain ⟨s0, s1, s2⟩ := hSw
            first
              | rfl
              | (go_simp; done)
          try go_frame
          refine wpAnyT_done (by kernel_rfl) ?_ _
          have HF := hide ((unhide HZ4).own_ _ _ rfl)
          have HFB := hide (unhide HZ4).bel
          clear HZ4 hSS hHeld
          go_wp2_with fail
          go_ret
          exact ⟨_, rfl, (unhide HEND _ _ (unhide HF) (unhide HFB)).1, (unhide HEND _ _ (unhide HF) (unhide HFB)).2⟩
        · skip
          try simp only [pv]
          go_simp
          have HZ5 := hide (unhide HZ1).lit
          obtain ⟨wz5, hwz5⟩ : ∃ z, wz1.alloc (.cells #[.int .i64 p.kind, .int .i64 p.n, .string p.text] 39) = z := ⟨_, rfl⟩
          obtain ⟨qwz5, hqwz5⟩ : ∃ z, wz1.heap.size = z := ⟨_, rfl⟩
          rw [hwz5, hqwz5] at HZ5
          simp only [hwz5, hqwz5]
          clear hwz5 hqwz5 HZ1
          have hSS : wz5.cell? ⟨bb, 0, none⟩ = some (.int .i64 p.kind) ∧ wz5.cell? ⟨bb, 1, none⟩ = some (.int .i64 p.n) ∧ wz5.cell? ⟨bb, 2, none⟩ = some (.string p.text) := unhide HSS _ (unhide HZ5).bel
          refine hK.out _ _ (fun _ => hSS) ?_
          clear hK K
          clear hSS
          try go_frame
          refine wpAnyT_one (i := 2) (o := zone17) (by kernel_rfl) rfl (fun K hK => ?_)
          refine wp_append_pts (W := wz5) (Operand.tmp 48) (Operand.tmp 49) rfl wd.heap.size vwz1 [] l (some ⟨b, off, none⟩) c rfl ((unhide HZ5).own_ _ _ rfl) (by simp only [List.length_nil]; have := unhide HLN; omega) (unhide HZ5).bel.size (by simp only [unhide HLN2]; rfl) (unhide HPT _ (unhide HZ5).bel) (fun ad_ cap_ wz6 hv3 hg3 hk3 => ?_)
          have HZ6 := hide ((unhide HZ5).grow hv3 hg3 hk3)
          obtain ⟨vwz6, hvwz6⟩ : ∃ z, Value.slice ad_ (([] : List Pt).length + (l : List Pt).length) cap_ = z := ⟨_, rfl⟩
          rw [hvwz6] at HZ6
          simp only [hvwz6]
          clear hvwz6 hv3 hg3 hk3 HZ5
          have hSS : wz6.cell? ⟨bb, 0, none⟩ = some (.int .i64 p.kind) ∧ wz6.cell? ⟨bb, 1, none⟩ = some (.int .i64 p.n) ∧ wz6.cell? ⟨bb, 2, none⟩ = some (.string p.text) := unhide HSS _ (unhide HZ6).bel
          refine hK.out _ _ (fun _ => hSS) ?_
          clear hK K
          clear hSS
          try go_frame
          refine wpAnyT_one (i := 5) (o := zone18) (by kernel_rfl) rfl (fun K hK => ?_)
          refine wp_append_pts (W := wz6) (Operand.tmp 50) (Operand.tmp 52) rfl wd.heap.size vwz6 l [p] (some ⟨qwz5, 0, none⟩) 1 rfl ((unhide HZ6).own_ _ _ rfl) (by simp only [List.length_cons, List.length_nil]; have := unhide HLN; omega) (unhide HZ6).bel.size rfl (row_pts (l := [p]) (by simpa [ptc] using ((unhide HZ6).lit_ _ rfl).1)) (fun ad_ cap_ wz7 hv3 hg3 hk3 => ?_)
          have HZ7 := hide ((unhide HZ6).grow hv3 hg3 hk3)
          obtain ⟨vwz7, hvwz7⟩ : ∃ z, Value.slice ad_ ((l : List Pt).length + ([p] : List Pt).length) cap_ = z := ⟨_, rfl⟩
          rw [hvwz7] at HZ7
          simp only [hvwz7]
          clear hvwz7 hv3 hg3 hk3 HZ6
          have hSS : wz7.cell? ⟨bb, 0, none⟩ = some (.int .i64 p.kind) ∧ wz7.cell? ⟨bb, 1, none⟩ = some (.int .i64 p.n) ∧ wz7.cell? ⟨bb, 2, none⟩ = some (.string p.text) := unhide HSS _ (unhide HZ7).bel
          refine hK.out _ _ (fun _ => hSS) ?_
          clear hK K
          clear hSS
          try go_frame
          have hSS : wz7.cell? ⟨bb, 0, none⟩ = some (.int .i64 p.kind) ∧ wz7.cell? ⟨bb, 1, none⟩ = some (.int .i64 p.n) ∧ wz7.cell? ⟨bb, 2, none⟩ = some (.string p.text) := unhide HSS _ (unhide HZ7).bel
          refine tk 6 (v := vwz7) rfl (Or.inl ⟨by rfl, ?_⟩) hSS ?_
          · intro w hSw
            obtain ⟨s0, s1, s2⟩ := hSw
            first
              | rfl
              | (go_simp; done)
          try go_frame
          refine wpAnyT_done (by kernel_rfl) ?_ _
          have HF := hide ((unhide HZ7).own_ _ _ rfl)
          have HFB := hide (unhide HZ7).bel
          clear HZ7 hSS hHeld
          go_wp2_with fail
          go_ret
          exact ⟨_, rfl, (unhide HEND _ _ (unhide HF) (unhide HFB)).1, (unhide HEND _ _ (unhide HF) (unhide HFB)).2⟩
      · skip
        try simp only [pv]
        go_simp
        have HZ8 := hide (unhide HA0).lit
        obtain ⟨wz8, hwz8⟩ : ∃ z, wd.alloc (.cells #[.int .i64 p.kind, .int .i64 p.n, .string p.text] 39) = z := ⟨_, rfl⟩
        obtain ⟨qwz8, hqwz8⟩ : ∃ z, wd.heap.size = z := ⟨_, rfl⟩
        rw [hwz8, hqwz8] at HZ8
        simp only [hwz8, hqwz8]
        clear hwz8 hqwz8 HA0
        have hSS : wz8.cell? ⟨bb, 0, none⟩ = some (.int .i64 p.kind) ∧ wz8.cell? ⟨bb, 1, none⟩ = some (.int .i64 p.n) ∧ wz8.cell? ⟨bb, 2, none⟩ = some (.string p.text) := unhide HSS _ (unhide HZ8).bel
        refine hK.out _ _ (fun _ => hSS) ?_
        clear hK K
        clear hSS
        try go_frame
        refine wpAnyT_one (i := 0) (o := zone15) (by kernel_rfl) rfl (fun K hK => ?_)
        go_simp
        have HZ9 := hide (unhide HZ8).build
        obtain ⟨wz9, hwz9⟩ : ∃ z, wz8.alloc (.cells #[] 39) = z := ⟨_, rfl⟩
        obtain ⟨vwz9, hvwz9⟩ : ∃ z, Value.slice (some ⟨wz8.heap.size, 0, none⟩) 0 0 = z := ⟨_, rfl⟩
        rw [hwz9, hvwz9] at HZ9
        simp only [hwz9, hvwz9]
        clear hwz9 hvwz9 HZ8
        have hSS : wz9.cell? ⟨bb, 0, none⟩ = some (.int .i64 p.kind) ∧ wz9.cell? ⟨bb, 1, none⟩ = some (.int .i64 p.n) ∧ wz9.cell? ⟨bb, 2, none⟩ = some (.string p.text) := unhide HSS _ (unhide HZ9).bel
        refine hK.out _ _ (fun _ => hSS) ?_
        clear hK K
        clear hSS
        try go_frame
        refine wpAnyT_one (i := 2) (o := zone17) (by kernel_rfl) rfl (fun K hK => ?_)
        refine wp_append_pts (W := wz9) (Operand.tmp 48) (Operand.tmp 49) rfl wd.heap.size vwz9 [] l (some ⟨b, off, none⟩) c rfl ((unhide HZ9).own_ _ _ rfl) (by simp only [List.length_nil]; have := unhide HLN; omega) (unhide HZ9).bel.size (by simp only [unhide HLN2]; rfl) (unhide HPT _ (unhide HZ9).bel) (fun ad_ cap_ wz10 hv3 hg3 hk3 => ?_)
        have HZ10 := hide ((unhide HZ9).grow hv3 hg3 hk3)
        obtain ⟨vwz10, hvwz10⟩ : ∃ z, Value.slice ad_ (([] : List Pt).length + (l : List Pt).length) cap_ = z := ⟨_, rfl⟩
        rw [hvwz10] at HZ10
        simp only [hvwz10]
        clear hvwz10 hv3 hg3 hk3 HZ9
        have hSS : wz10.cell? ⟨bb, 0, none⟩ = some (.int .i64 p.kind) ∧ wz10.cell? ⟨bb, 1, none⟩ = some (.int .i64 p.n) ∧ wz10.cell? ⟨bb, 2, none⟩ = some (.string p.text) := unhide HSS _ (unhide HZ10).bel
        refine hK.out _ _ (fun _ => hSS) ?_
        clear hK K
        clear hSS
        try go_frame
        refine wpAnyT_one (i := 5) (o := zone18) (by kernel_rfl) rfl (fun K hK => ?_)
        refine wp_append_pts (W := wz10) (Operand.tmp 50) (Operand.tmp 52) rfl wd.heap.size vwz10 l [p] (some ⟨qwz8, 0, none⟩) 1 rfl ((unhide HZ10).own_ _ _ rfl) (by simp only [List.length_cons, List.length_nil]; have := unhide HLN; omega) (unhide HZ10).bel.size rfl (row_pts (l := [p]) (by simpa [ptc] using ((unhide HZ10).lit_ _ rfl).1)) (fun ad_ cap_ wz11 hv3 hg3 hk3 => ?_)
        have HZ11 := hide ((unhide HZ10).grow hv3 hg3 hk3)
        obtain ⟨vwz11, hvwz11⟩ : ∃ z, Value.slice ad_ ((l : List Pt).length + ([p] : List Pt).length) cap_ = z := ⟨_, rfl⟩
        rw [hvwz11] at HZ11
        simp only [hvwz11]
        clear hvwz11 hv3 hg3 hk3 HZ10
        have hSS : wz11.cell? ⟨bb, 0, none⟩ = some (.int .i64 p.kind) ∧ wz11.cell? ⟨bb, 1, none⟩ = some (.int .i64 p.n) ∧ wz11.cell? ⟨bb, 2, none⟩ = some (.string p.text) := unhide HSS _ (unhide HZ11).bel
        refine hK.out _ _ (fun _ => hSS) ?_
        clear hK K
        clear hSS
        try go_frame
        have hSS : wz11.cell? ⟨bb, 0, none⟩ = some (.int .i64 p.kind) ∧ wz11.cell? ⟨bb, 1, none⟩ = some (.int .i64 p.n) ∧ wz11.cell? ⟨bb, 2, none⟩ = some (.string p.text) := unhide HSS _ (unhide HZ11).bel
        refine tk 6 (v := vwz11) rfl (Or.inl ⟨by rfl, ?_⟩) hSS ?_
        · intro w hSw
          obtain ⟨s0, s1, s2⟩ := hSw
          first
            | rfl
            | (go_simp; done)
        try go_frame
        refine wpAnyT_done (by kernel_rfl) ?_ _
        have HF := hide ((unhide HZ11).own_ _ _ rfl)
        have HFB := hide (unhide HZ11).bel
        clear HZ11 hSS hHeld
        go_wp2_with fail
        go_ret
        exact ⟨_, rfl, (unhide HEND _ _ (unhide HF) (unhide HFB)).1, (unhide HEND _ _ (unhide HF) (unhide HFB)).2⟩
end Go.Proofs.YtonabfpgdgnpnaaDoor

namespace Go.Proofs.YtonabfpgdgnpnaaDoor
set_option linter.unusedVariables false
set_option linter.unusedSimpArgs false
open Go.ChangeShapes Go.WideShapes Go.ChangeAt Go.RowKit Go.Joins Go.Deep

theorem oneL_last {l : List Pt} {p q : Pt} (h : (oneL l p).getLast? = some q) : q.kind = p.kind := by
  rcases snoc_or l with rfl | ⟨L, r, rfl⟩
  · rw [oneL_nil] at h
    simp at h
    rw [← h]
  · rw [oneL_snoc] at h
    split at h
    · rename_i e
      simp at h
      rw [← h]
      exact e
    · simp at h
      rw [← h]
theorem last_mem {l : List Pt} {q : Pt} (h : l.getLast? = some q) : q ∈ l := List.mem_of_getLast? h
/-- the document's one, on an own row -/
theorem one_own {w W : World} {B : Nat} {v : Value} {l : List Pt} {p : Pt} (ho : OwnP W B v l) (hb : Below B w W) (hB : B ≤ w.heap.size) (hl : l.length ≤ 1099511627776) (hn : ∀ q, l.getLast? = some q → q.kind = p.kind → -9223372036854775808 ≤ q.n + p.n ∧ q.n + p.n ≤ 9223372036854775807 ∧ q.text.size + p.text.size ≤ 9223372036854775807) :
    Calls Tryd.prog 55 #[v, .agg #[.int .i64 p.kind, .int .i64 p.n, .string p.text]] W fun r w' => ∃ v', r = .returned v' ∧ OwnP w' B v' (oneL l p) ∧ Below W.heap.size W w' := by
  obtain ⟨a, c, rfl, h1, h2, h3⟩ := ho.slice
  refine Calls.mono (one_any a l c p W h1 h2 h3 hl hn) ?_
  rintro r w' ⟨v', rfl, h4, h5⟩
  exact ⟨v', rfl, own_base h4 (Nat.le_trans hB hb.size), h5⟩
set_option maxRecDepth 100000 in
set_option maxHeartbeats 4000000 in
theorem rnorm_any (a : Option Addr) (l : List Pt) (c : Nat) (w : World) (hp : PtsAt w a l) (hc : l.length ≤ 4194304) (hs : sumT l ≤ 140737488355328) :
    Calls Tryd.prog 34 #[.slice a l.length c] w fun r w' => ∃ v, r = .returned v ∧ OwnP w' w.heap.size v (rnormL l) ∧ Below w.heap.size w w' := by
  have HP := hide hp
  have HS := hide hs
  obtain ⟨n, hn⟩ : ∃ n, l.length = n := ⟨_, rfl⟩
  rw [hn] at hc ⊢
  have HN := hide hn
  have nI : (n : Int) ≤ 9223372036854775807 := by omega
  clear hp hs hn
  go_enter Tryd.func34, Tryd.ntmps34
  go_wp2_with fail
  go_loopw [3, 10] (fun out i wr => ∃ k : Nat, k ≤ n ∧ i = .int .i64 (k : Int) ∧ Hid (OwnP wr w.heap.size out (rnormL (l.take k))) ∧ Hid (Below w.heap.size w wr)) (fun _ i _ => ((n : Int) - intOf i).toNat)
  case atStart => exact ⟨0, by omega, by simp, hide (OwnP.nil _ _), hide (Below.refl _ _)⟩
  case round =>
    obtain ⟨k, hk, rfl, HOW, HB⟩ := hrel
    by_cases hlt : k < n
    · have kI : (k : Int) < (n : Int) := by omega
      obtain ⟨p, hpk⟩ : ∃ p, l[k]? = some p := ⟨_, List.getElem?_eq_getElem (by have := unhide HN; omega)⟩
      obtain ⟨b, off, rfl, e0, e1, e2⟩ := (unhide HP).at_ (unhide HB) hpk
      have HST := hide (rnormL_take hpk)
      have HSM : Hid (sumT (rnormL (l.take k)) + p.text.size ≤ 140737488355328) := hide (by have := rnorm_sum l k; have := sumT_take hpk; have := sumT_le l (k + 1); have := unhide HS; omega)
      have HLEN : Hid ((rnormL (l.take k)).length ≤ 4194304) := hide (by have := rnorm_len l k; omega)
      have HNUM := hide (rnorm_num l k (by omega))
      have hbA : Below wr.heap.size wr (wr.alloc (.cells #[.int .i64 p.kind, .int .i64 p.n, .string p.text] 39)) := (Below.refl _ _).alloc (Nat.le_refl _) _
      have HBN := hide hbA
      have HOA := hide ((unhide HOW).call hbA)
      have HBA := hide ((unhide HB).trans (hbA.mono (unhide HB).size))
      have HRW := hide (RowAt.new wr 39 [.int .i64 p.kind, .int .i64 p.n, .string p.text])
      have HFI := hide (rfits_any p (wr.alloc (.cells #[.int .i64 p.kind, .int .i64 p.n, .string p.text] 39)) (by have := unhide HSM; omega))
      clear hpk hbA HOW
      obtain ⟨ro, hro⟩ : ∃ z, rnormL (l.take k) = z := ⟨_, rfl⟩
      rw [hro] at HST HSM HLEN HNUM HOA
      clear hro
      go_wp2_with fail
      obtain ⟨wA, hA⟩ : ∃ wA, wr.alloc (.cells #[.int .i64 p.kind, .int .i64 p.n, .string p.text] 39) = wA := ⟨_, rfl⟩
      rw [hA] at HBA HRW HFI HOA HBN ⊢
      clear hA e0 e1 e2
      obtain ⟨bb, hbb⟩ : ∃ bb, wr.heap.size = bb := ⟨_, rfl⟩
      simp only [hbb] at HRW ⊢
      clear hbb
      refine Calls.mono (unhide HFI) ?_
      rintro r w2 ⟨rfl, hb2⟩
      have HB2 := hide ((unhide HBA).trans (hb2.mono (unhide HBA).size))
      have HO2 := hide ((unhide HOA).call hb2)
      have HR2 := hide ((unhide HRW).below hb2 (unhide HRW).lt)
      clear hb2 HBA HRW HFI HOA HBN HB
      have r0 : w2.cell? ⟨bb, 0, none⟩ = some (.int .i64 p.kind) := (unhide HR2).cell 0
      have r1 : w2.cell? ⟨bb, 1, none⟩ = some (.int .i64 p.n) := (unhide HR2).cell 1
      have r2 : w2.cell? ⟨bb, 2, none⟩ = some (.string p.text) := (unhide HR2).cell 2
      cases hfb : fitsB p with
      | false =>
        have HST : Hid (rnormL (l.take (k + 1)) = ro) := hide (by rw [unhide HST]; exact rnStep_no _ _ hfb)
        clear hfb
        go_wp2_with fail
        exact ⟨⟨k + 1, by omega, by simp, by rw [unhide HST]; exact HO2, hide (unhide HB2)⟩, by simp [intOf]; omega⟩
      | true =>
        have HFB := hide hfb
        have HF := hide (fitsB_has hfb)
        have HNM : Hid (∀ q ∈ ro, -9223372036854775808 ≤ q.n + p.n ∧ q.n + p.n ≤ 9223372036854775807 ∧ q.text.size + p.text.size ≤ 9223372036854775807) := hide (fun q hq => by
          have h1 := unhide HNUM q hq
          have h2 := (unhide HF).1
          have h3 := (unhide HF).2.1
          have h4 := sumT_mem hq
          have h5 := unhide HSM
          omega)
        clear hfb
        rcases snoc_or ro with hr0 | ⟨L, d, hr0⟩
        · have HST : Hid (rnormL (l.take (k + 1)) = oneL ro p) := hide (by rw [unhide HST, hr0]; exact rnStep_nil _ (unhide HFB))
          obtain ⟨ao, co, hvo, hpo, hco, hmo⟩ := (unhide HO2).slice
          rw [hr0] at hvo
          simp only [List.length_nil] at hvo
          subst hvo
          clear hr0 hpo
          cases hk2 : (p.kind == 2) with
          | false =>
            have HON := hide (one_own (w := w) (p := p) (unhide HO2) (unhide HB2) (Nat.le_refl _) (by have := unhide HLEN; omega) (fun q hq _ => unhide HNM q (last_mem hq)))
            go_wp2_with fail
            refine Calls.mono (unhide HON) ?_
            rintro r w3 ⟨v3, rfl, ho3, hb3⟩
            have HO3 := hide ho3
            have HB3 := hide ((unhide HB2).trans (hb3.mono (unhide HB2).size))
            clear ho3 hb3 HON HO2 r0 r1 r2
            go_wp2_with fail
            exact ⟨⟨k + 1, by omega, by simp, by rw [unhide HST]; exact HO3, hide (unhide HB3)⟩, by simp [intOf]; omega⟩
          | true =>
            have HON := hide (one_own (w := w) (p := p) (unhide HO2) (unhide HB2) (Nat.le_refl _) (by have := unhide HLEN; omega) (fun q hq _ => unhide HNM q (last_mem hq)))
            go_wp2_with fail
            refine Calls.mono (unhide HON) ?_
            rintro r w3 ⟨v3, rfl, ho3, hb3⟩
            have HO3 := hide ho3
            have HB3 := hide ((unhide HB2).trans (hb3.mono (unhide HB2).size))
            clear ho3 hb3 HON HO2 r0 r1 r2
            go_wp2_with fail
            exact ⟨⟨k + 1, by omega, by simp, by rw [unhide HST]; exact HO3, hide (unhide HB3)⟩, by simp [intOf]; omega⟩
        · obtain ⟨ao, co, hvo, hpo, hco, hmo⟩ := (unhide HO2).slice
          obtain ⟨j, hj⟩ : ∃ j, L.length = j := ⟨_, rfl⟩
          have hlen : ro.length = j + 1 := by rw [hr0]; simp [hj]
          rw [hlen] at hvo hco
          have hdj : ro[j]? = some d := by rw [hr0, ← hj]; simp
          obtain ⟨b3, off3, rfl, d0, d1, d2⟩ := hpo.at_ (Below.refl _ _) hdj
          subst hvo
          have HJL := hide hj
          have HR0 := hide hr0
          have HPO := hide hpo
          have jI : (0 : Int) ≤ (j : Int) := by omega
          have j0 : (0 : Int) < (j : Int) + 1 := by omega
          have jn : (j : Int) < (j : Int) + 1 := by omega
          have jm : (j : Int) + 1 ≤ 1099511627776 := by have := unhide HLEN; omega
          have jw : IntKind.i64.wrap (j : Int) = (j : Int) := by rw [IntKind.wrap_i64]; omega
          have ejj : ((j + 1 : Nat) : Int) = (j : Int) + 1 := by push_cast; rfl
          have HSN : Hid (rnStep ro p = if p.kind = 2 ∧ d.kind = 3 then oneL (oneL L p) d else oneL ro p) := hide (by rw [hr0]; exact rnStep_snoc _ _ _ (unhide HFB))
          clear hr0 hj hdj hpo hlen
          by_cases hk2 : p.kind = 2
          · have hk2b : (p.kind == 2) = true := by simp [hk2]
            by_cases hd3 : d.kind = 3
            · have hd3b : (d.kind == 3) = true := by simp [hd3]
              have HST : Hid (rnormL (l.take (k + 1)) = oneL (oneL L p) d) := hide (by rw [unhide HST, unhide HSN, if_pos ⟨hk2, hd3⟩])
              have HKK := hide (And.intro hk2 hd3)
              clear HSN hk2 hd3
              go_wp2_with fail
              have hbD : Below w2.heap.size w2 (w2.alloc (.cells #[.int .i64 d.kind, .int .i64 d.n, .string d.text] 39)) := (Below.refl _ _).alloc (Nat.le_refl _) _
              have HRD := hide (RowAt.new w2 39 [.int .i64 d.kind, .int .i64 d.n, .string d.text])
              have HRP := hide ((unhide HR2).below hbD (unhide HR2).lt)
              have HBT := hide ((unhide HB2).trans (hbD.mono (unhide HB2).size))
              have HPD := hide ((unhide HPO).call hbD)
              obtain ⟨wD, hwD⟩ : ∃ z, w2.alloc (.cells #[.int .i64 d.kind, .int .i64 d.n, .string d.text] 39) = z := ⟨_, rfl⟩
              obtain ⟨gd, hgd⟩ : ∃ z, w2.heap.size = z := ⟨_, rfl⟩
              rw [hwD] at HRD HRP HBT HPD ⊢
              simp only [hgd] at HRD ⊢
              clear hwD hgd hbD HR2 HPO HO2 r0 r1 r2 d0 d1 d2
              have HSS : Hid (∀ W, Below wD.heap.size wD W → (W.cell? ⟨bb, 0, none⟩ = some (.int .i64 p.kind) ∧ W.cell? ⟨bb, 1, none⟩ = some (.int .i64 p.n) ∧ W.cell? ⟨bb, 2, none⟩ = some (.string p.text)) ∧ W.cell? ⟨gd, 0, none⟩ = some (.int .i64 d.kind) ∧ W.cell? ⟨gd, 1, none⟩ = some (.int .i64 d.n) ∧ W.cell? ⟨gd, 2, none⟩ = some (.string d.text)) := hide (fun W hW => ⟨⟨((unhide HRP).below hW (unhide HRP).lt).cell 0, ((unhide HRP).below hW (unhide HRP).lt).cell 1, ((unhide HRP).below hW (unhide HRP).lt).cell 2⟩, ((unhide HRD).below hW (unhide HRD).lt).cell 0, ((unhide HRD).below hW (unhide HRD).lt).cell 1, ((unhide HRD).below hW (unhide HRD).lt).cell 2⟩)
              have HC1 : Hid (∀ W, Below wD.heap.size wD W → Calls Tryd.prog 55 #[.slice (some ⟨b3, off3, none⟩) j co, .agg #[.int .i64 p.kind, .int .i64 p.n, .string p.text]] W fun r w' => ∃ v', r = .returned v' ∧ OwnP w' w.heap.size v' (oneL L p) ∧ Below W.heap.size W w') := hide (fun W hW => by
                have hLL : PtsAt W (some ⟨b3, off3, none⟩) L := by
                  have h0 := (unhide HPD).call hW
                  rw [unhide HR0] at h0
                  exact h0.front
                have h1 := one_any (some ⟨b3, off3, none⟩) L co p W hLL (by rw [unhide HJL]; omega) hmo (by rw [unhide HJL]; omega) (fun q hq _ => unhide HNM q (by rw [unhide HR0]; exact List.mem_append_left _ (last_mem hq)))
                rw [unhide HJL] at h1
                refine Calls.mono h1 ?_
                rintro r w' ⟨v', rfl, h4, h5⟩
                exact ⟨v', rfl, own_base h4 (Nat.le_trans (unhide HBT).size hW.size), h5⟩)
              have HC2 : Hid (∀ W v, OwnP W w.heap.size v (oneL L p) → Below wD.heap.size wD W → Calls Tryd.prog 55 #[v, .agg #[.int .i64 d.kind, .int .i64 d.n, .string d.text]] W fun r w' => ∃ v', r = .returned v' ∧ OwnP w' w.heap.size v' (oneL (oneL L p) d) ∧ Below W.heap.size W w') := hide (fun W v hv hW => one_own (w := w) hv ((unhide HBT).trans (hW.mono (unhide HBT).size)) (Nat.le_refl _) (by have := oneL_len L p; rw [unhide HJL] at this; omega) (fun q hq e => by
                have := oneL_last hq
                have h3 := unhide HKK
                omega))
              have hjc : (j : Int) ≤ (co : Int) := by omega
              have hjc2 : j ≤ co := by omega
              refine wp_region_T (S := fun W => (W.cell? ⟨bb, 0, none⟩ = some (.int .i64 p.kind) ∧ W.cell? ⟨bb, 1, none⟩ = some (.int .i64 p.n) ∧ W.cell? ⟨bb, 2, none⟩ = some (.string p.text)) ∧ W.cell? ⟨gd, 0, none⟩ = some (.int .i64 d.kind) ∧ W.cell? ⟨gd, 1, none⟩ = some (.int .i64 d.n) ∧ W.cell? ⟨gd, 2, none⟩ = some (.string d.text)) (fun i => decide (i < 9)) (by kernel_rfl) (unhide HSS _ (Below.refl _ _).drew) (fun hHeld => ?_)
              obtain ⟨wd, hwd⟩ : ∃ z, wD.drew = z := ⟨_, rfl⟩
              have hbd : Below wD.heap.size wD wd := by rw [← hwd]; exact (Below.refl _ _).drew
              have HBD := hide hbd
              rw [hwd] at hHeld ⊢
              clear hwd hbd
              refine tk 0 (v := .slice (some ⟨b3, off3, none⟩) (j + 1) co) rfl (Or.inl ⟨by rfl, ?_⟩) hHeld ?_
              · intro w hSw
                obtain ⟨⟨s0, s1, s2⟩, s3, s4, s5⟩ := hSw
                first
                  | rfl
                  | (go_simp; done)
              try go_frame
              refine tk 1 (v := .int .i64 ((j : Int) + 1)) rfl (Or.inl ⟨by rfl, ?_⟩) hHeld ?_
              · intro w hSw
                obtain ⟨⟨s0, s1, s2⟩, s3, s4, s5⟩ := hSw
                first
                  | rfl
                  | (go_simp; done)
              try go_frame
              refine tk 2 (v := .int .i64 (j : Int)) rfl (Or.inl ⟨by rfl, ?_⟩) hHeld ?_
              · intro w hSw
                obtain ⟨⟨s0, s1, s2⟩, s3, s4, s5⟩ := hSw
                first
                  | rfl
                  | (go_simp; done)
              try go_frame
              refine tk 3 (v := .slice (some ⟨b3, off3, none⟩) j co) rfl (Or.inl ⟨by rfl, ?_⟩) hHeld ?_
              · intro w hSw
                obtain ⟨⟨s0, s1, s2⟩, s3, s4, s5⟩ := hSw
                first
                  | rfl
                  | (go_simp; done)
              try go_frame
              refine tk 4 (v := .agg #[.int .i64 p.kind, .int .i64 p.n, .string p.text]) rfl (Or.inl ⟨by rfl, ?_⟩) hHeld ?_
              · intro w hSw
                obtain ⟨⟨s0, s1, s2⟩, s3, s4, s5⟩ := hSw
                first
                  | rfl
                  | (go_simp; done)
              try go_frame
              refine tk 6 (v := .agg #[.int .i64 d.kind, .int .i64 d.n, .string d.text]) rfl (Or.inl ⟨by rfl, ?_⟩) hHeld ?_
              · intro w hSw
                obtain ⟨⟨s0, s1, s2⟩, s3, s4, s5⟩ := hSw
                first
                  | rfl
                  | (go_simp; done)
              try go_frame
              refine wpAnyT_one (i := 5) (o := { dst := some 45, op := Op.call { callee := Callee.value (Operand.func 55), args := #[Operand.tmp 43, Operand.tmp 44], argTypes := #[24, 39] }, type := 24, pos := "ref.go:137", after := #[{ on := 3, ground := Ground.data }, { on := 4, ground := Ground.data }], guard := none }) (by kernel_rfl) rfl (fun K hK => ?_)
              go_simp
              refine Calls.mono (unhide HC1 _ (unhide HBD)) ?_
              rintro r wE ⟨vE, rfl, hoE, hbE⟩
              have HOE := hide hoE
              have HBE := hide ((unhide HBD).trans (hbE.mono (unhide HBD).size))
              clear hoE hbE
              go_wp2_with fail
              refine hK.out _ _ (fun _ => unhide HSS _ (unhide HBE)) ?_
              clear hK K
              try go_frame
              refine wpAnyT_one (i := 7) (o := { dst := some 47, op := Op.call { callee := Callee.value (Operand.func 55), args := #[Operand.tmp 45, Operand.tmp 46], argTypes := #[24, 39] }, type := 24, pos := "ref.go:137", after := #[{ on := 5, ground := Ground.data }, { on := 6, ground := Ground.data }, { on := 5, ground := Ground.chain }], guard := none }) (by kernel_rfl) rfl (fun K hK => ?_)
              go_simp
              refine Calls.mono (unhide HC2 _ _ (unhide HOE) (unhide HBE)) ?_
              rintro r wF ⟨vF, rfl, hoF, hbF⟩
              have HOF := hide hoF
              have HBF := hide ((unhide HBE).trans (hbF.mono (unhide HBE).size))
              clear hoF hbF
              go_wp2_with fail
              refine hK.out _ _ (fun _ => unhide HSS _ (unhide HBF)) ?_
              clear hK K
              try go_frame
              refine tk 8 (v := vF) rfl (Or.inl ⟨by rfl, ?_⟩) (unhide HSS _ (unhide HBF)) ?_
              · intro w hSw
                obtain ⟨⟨s0, s1, s2⟩, s3, s4, s5⟩ := hSw
                first
                  | rfl
                  | (go_simp; done)
              try go_frame
              refine wpAnyT_done (by kernel_rfl) ?_ _
              have HB3 := hide ((unhide HBT).trans ((unhide HBF).mono (unhide HBT).size))
              clear HSS HC1 HC2 hHeld HBE HBD HOE
              go_wp2_with fail
              exact ⟨⟨k + 1, by omega, by simp, by rw [unhide HST]; exact HOF, hide (unhide HB3)⟩, by simp [intOf]; omega⟩
            · have hd3b : (d.kind == 3) = false := by simp [hd3]
              have HST : Hid (rnormL (l.take (k + 1)) = oneL ro p) := hide (by rw [unhide HST, unhide HSN, if_neg (fun h => hd3 h.2)])
              clear HSN hk2 hd3
              have HON := hide (one_own (w := w) (p := p) (unhide HO2) (unhide HB2) (Nat.le_refl _) (by have := unhide HLEN; omega) (fun q hq _ => unhide HNM q (last_mem hq)))
              go_wp2_with fail
              refine Calls.mono (unhide HON) ?_
              rintro r w3 ⟨v3, rfl, ho3, hb3⟩
              have HO3 := hide ho3
              have HB3 := hide ((unhide HB2).trans (hb3.mono (unhide HB2).size))
              clear ho3 hb3 HON HO2 r0 r1 r2
              go_wp2_with fail
              exact ⟨⟨k + 1, by omega, by simp, by rw [unhide HST]; exact HO3, hide (unhide HB3)⟩, by simp [intOf]; omega⟩
          · have hk2b : (p.kind == 2) = false := by simp [hk2]
            have HST : Hid (rnormL (l.take (k + 1)) = oneL ro p) := hide (by rw [unhide HST, unhide HSN, if_neg (fun h => hk2 h.1)])
            clear HSN hk2
            have HON := hide (one_own (w := w) (p := p) (unhide HO2) (unhide HB2) (Nat.le_refl _) (by have := unhide HLEN; omega) (fun q hq _ => unhide HNM q (last_mem hq)))
            go_wp2_with fail
            refine Calls.mono (unhide HON) ?_
            rintro r w3 ⟨v3, rfl, ho3, hb3⟩
            have HO3 := hide ho3
            have HB3 := hide ((unhide HB2).trans (hb3.mono (unhide HB2).size))
            clear ho3 hb3 HON HO2 r0 r1 r2
            go_wp2_with fail
            exact ⟨⟨k + 1, by omega, by simp, by rw [unhide HST]; exact HO3, hide (unhide HB3)⟩, by simp [intOf]; omega⟩
    · obtain rfl : n = k := by omega
      have kI : ¬ (n : Int) < (n : Int) := by omega
      have HL : Hid (l.take n = l) := hide (List.take_of_length_le (by rw [unhide HN]; exact Nat.le_refl _))
      rw [unhide HL] at HOW
      go_wp2_with fail
      go_ret
      exact ⟨_, rfl, unhide HOW, unhide HB⟩
end Go.Proofs.YtonabfpgdgnpnaaDoor
