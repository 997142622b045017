/- FrameChecks: the walk. -/
import Derived.Test.YtbnfilhilgjnfaaDoorGRck
import Derived.Test.YtbnfilhilgjnfaaDoorGOpn
namespace Go.Proofs.YtbnfilhilgjnfaaDoor
set_option linter.unusedVariables false
set_option linter.unusedSimpArgs false
open Go.ChangeShapes Go.WideShapes Go.ChangeAt Go.RowKit Go.Joins

theorem CkR.same {k : Int} {ns : Nat → Int} {l : List Ed.Pt} {w w' v v' : World} {e e' : Ending} (h : CkR k ns l w e w') (h' : CkR k ns l v e' v') : ∃ z, e = .returned (.int .i64 z) ∧ e' = .returned (.int .i64 z) := by
  obtain ⟨z, rfl, hz, hi, _⟩ := h
  obtain ⟨y, rfl, hy, hj, _⟩ := h'
  refine ⟨z, rfl, ?_⟩
  have : y = z := by
    rcases hz with rfl | rfl
    · exact hj.2 (hi.1 rfl)
    · rcases hy with rfl | rfl
      · have := hi.2 (hj.1 rfl); omega
      · rfl
  rw [this]
set_option maxRecDepth 100000 in
set_option maxHeartbeats 8000000 in
theorem checks_law (k x0 x1 x2 x3 x4 x5 x6 : Int) (a : Option Addr) (l : List Ed.Pt) (c : Nat) (w : World) (hT : GLay w) (hp : Ed.PtsAt w a l) (hc : l.length ≤ maxLen) (hs : ∀ p ∈ l, p.text.size ≤ 281474976710656) :
    Calls Tryd.prog 3 #[msgV k x0 x1 x2 x3 x4 x5 x6 (.slice a l.length c)] w fun e w' => e = .returned (.bool true) ∧ Below w.heap.size w w' := by
  have HLT : Hid (∀ w1, Below w.heap.size w w1 → Calls Tryd.prog 8 #[msgV k x0 x1 x2 x3 x4 x5 x6 (.slice a l.length c)] w1 fun e w' => LtR l.length w1 e w') := hide (fun w1 hb => llight_any k x0 x1 x2 x3 x4 x5 x6 a l c w1 (hp.call hb) hc)
  have HC1 : Hid (∀ w1, Below w.heap.size w w1 → l.length ≤ 500 → Calls Tryd.prog 10 #[msgV k x0 x1 x2 x3 x4 x5 x6 (.slice a l.length c)] w1 fun e w' => CkR k (nsF x0 x1 x2 x3 x4 x5 x6) l w1 e w') := hide (fun w1 hb h5 => check_any k x0 x1 x2 x3 x4 x5 x6 a l c w1 (hT.below hb).1.2 (hT.below hb).2.1 (hT.below hb).2.2 (hp.call hb) (by omega) hs)
  have HC2 : Hid (∀ w1, Below w.heap.size w w1 → l.length ≤ 500 → Calls Tryd.prog 11 #[msgV k x0 x1 x2 x3 x4 x5 x6 (.slice a l.length c)] w1 fun e w' => CkR k (nsF x0 x1 x2 x3 x4 x5 x6) l w1 e w') := hide (fun w1 hb h5 => rcheck_any k x0 x1 x2 x3 x4 x5 x6 a l c w1 (hp.call hb) (by omega) hs)
  have HL1 : Hid (∀ w1, Below w.heap.size w w1 → l.length ≤ 500 → Calls Tryd.prog 12 #[.slice a l.length c] w1 fun r w' => r = .returned (.bool (lightB l)) ∧ Below w1.heap.size w1 w') := hide (fun w1 hb h5 => flight_any a l c w1 (hT.below hb).2.2 (hp.call hb) (by omega) hs)
  have HL2 : Hid (∀ w1, Below w.heap.size w w1 → l.length ≤ 500 → Calls Tryd.prog 13 #[.slice a l.length c] w1 fun r w' => r = .returned (.bool (lightB l)) ∧ Below w1.heap.size w1 w') := hide (fun w1 hb h5 => rlight_any a l c w1 (hp.call hb) (by omega) hs)
  have HAW : Hid (∀ w1, Below w.heap.size w w1 → Calls Tryd.prog 9 #[] w1 fun e w' => e = .returned (.bool true) ∧ Below w1.heap.size w1 w') := hide (fun w1 hb => fawake_any w1 (hT.below hb).1)
  obtain ⟨n, hn⟩ : ∃ n, l.length = n := ⟨_, rfl⟩
  rw [hn] at HLT HC1 HC2 HL1 HL2 hc ⊢
  clear hp hn hs hT
  have b1 : Below w.heap.size w (w.alloc (.cells #[.int .i64 k, .int .i64 x0, .int .i64 x1, .int .i64 x2, .int .i64 x3, .int .i64 x4, .int .i64 x5, .int .i64 x6, .slice a n c] 25)) := (Below.refl _ _).alloc (Nat.le_refl _) _
  have HR := hide (RowAt.new w 25 [.int .i64 k, .int .i64 x0, .int .i64 x1, .int .i64 x2, .int .i64 x3, .int .i64 x4, .int .i64 x5, .int .i64 x6, .slice a n c])
  have HLA := hide (unhide HLT _ b1)
  have HB1 := hide b1
  clear b1 HLT
  unfold msgV at *
  have c0 : (w.alloc (.cells #[.int .i64 k, .int .i64 x0, .int .i64 x1, .int .i64 x2, .int .i64 x3, .int .i64 x4, .int .i64 x5, .int .i64 x6, .slice a n c] 25)).cell? ⟨w.heap.size, 0, none⟩ = some (.int .i64 k) := (unhide HR).cell 0
  have c1 : (w.alloc (.cells #[.int .i64 k, .int .i64 x0, .int .i64 x1, .int .i64 x2, .int .i64 x3, .int .i64 x4, .int .i64 x5, .int .i64 x6, .slice a n c] 25)).cell? ⟨w.heap.size, 1, none⟩ = some (.int .i64 x0) := (unhide HR).cell 1
  have c2 : (w.alloc (.cells #[.int .i64 k, .int .i64 x0, .int .i64 x1, .int .i64 x2, .int .i64 x3, .int .i64 x4, .int .i64 x5, .int .i64 x6, .slice a n c] 25)).cell? ⟨w.heap.size, 2, none⟩ = some (.int .i64 x1) := (unhide HR).cell 2
  have c3 : (w.alloc (.cells #[.int .i64 k, .int .i64 x0, .int .i64 x1, .int .i64 x2, .int .i64 x3, .int .i64 x4, .int .i64 x5, .int .i64 x6, .slice a n c] 25)).cell? ⟨w.heap.size, 3, none⟩ = some (.int .i64 x2) := (unhide HR).cell 3
  have c4 : (w.alloc (.cells #[.int .i64 k, .int .i64 x0, .int .i64 x1, .int .i64 x2, .int .i64 x3, .int .i64 x4, .int .i64 x5, .int .i64 x6, .slice a n c] 25)).cell? ⟨w.heap.size, 4, none⟩ = some (.int .i64 x3) := (unhide HR).cell 4
  have c5 : (w.alloc (.cells #[.int .i64 k, .int .i64 x0, .int .i64 x1, .int .i64 x2, .int .i64 x3, .int .i64 x4, .int .i64 x5, .int .i64 x6, .slice a n c] 25)).cell? ⟨w.heap.size, 5, none⟩ = some (.int .i64 x4) := (unhide HR).cell 5
  have c6 : (w.alloc (.cells #[.int .i64 k, .int .i64 x0, .int .i64 x1, .int .i64 x2, .int .i64 x3, .int .i64 x4, .int .i64 x5, .int .i64 x6, .slice a n c] 25)).cell? ⟨w.heap.size, 6, none⟩ = some (.int .i64 x5) := (unhide HR).cell 6
  have c7 : (w.alloc (.cells #[.int .i64 k, .int .i64 x0, .int .i64 x1, .int .i64 x2, .int .i64 x3, .int .i64 x4, .int .i64 x5, .int .i64 x6, .slice a n c] 25)).cell? ⟨w.heap.size, 7, none⟩ = some (.int .i64 x6) := (unhide HR).cell 7
  have c8 : (w.alloc (.cells #[.int .i64 k, .int .i64 x0, .int .i64 x1, .int .i64 x2, .int .i64 x3, .int .i64 x4, .int .i64 x5, .int .i64 x6, .slice a n c] 25)).cell? ⟨w.heap.size, 8, none⟩ = some (.slice a n c) := (unhide HR).cell 8
  go_enter Tryd.func3, Tryd.ntmps3
  go_wp2_with fail
  generalize w.alloc (.cells #[.int .i64 k, .int .i64 x0, .int .i64 x1, .int .i64 x2, .int .i64 x3, .int .i64 x4, .int .i64 x5, .int .i64 x6, .slice a n c] 25) = w1 at *
  refine Calls.mono (unhide HLA) ?_
  rintro e w2 ⟨⟨b, rfl, hb5⟩, b2⟩
  have HR2 := hide ((unhide HR).below b2 (unhide HR).lt)
  have HB2 := hide ((unhide HB1).trans (b2.mono (by have := (unhide HB1).size; omega)))
  have H5 := hide hb5
  clear b2 hb5 HLA HB1 HR c0 c1 c2 c3 c4 c5 c6 c7 c8
  cases b with
  | false =>
    have HA2 := hide (unhide HAW w2 (unhide HB2))
    go_wp2_with fail
    refine Calls.mono (unhide HA2) ?_
    rintro e w3 ⟨rfl, b3⟩
    have HB3 := hide ((unhide HB2).trans (b3.mono (unhide HB2).size))
    clear b3
    go_wp2_with fail
    go_ret
    exact ⟨rfl, unhide HB3⟩
  | true =>
    have hn5 : n ≤ 500 := unhide H5 rfl
    obtain ⟨g, hg⟩ : ∃ g, w.heap.size = g := ⟨_, rfl⟩
    have HSS : Hid (∀ W, Below w2.heap.size w2 W → RowAt W g 25 [.int .i64 k, .int .i64 x0, .int .i64 x1, .int .i64 x2, .int .i64 x3, .int .i64 x4, .int .i64 x5, .int .i64 x6, .slice a n c]) := hide (fun W hW => by rw [← hg]; exact (unhide HR2).below hW (unhide HR2).lt)
    have HBW : Hid (∀ W, Below w2.heap.size w2 W → Below w.heap.size w W) := hide (fun W hW => (unhide HB2).trans (hW.mono (unhide HB2).size))
    go_wp2_with fail
    try simp only [hg]
    clear hg HR2
    refine Ed.wp_region_T (S := fun W => RowAt W g 25 [.int .i64 k, .int .i64 x0, .int .i64 x1, .int .i64 x2, .int .i64 x3, .int .i64 x4, .int .i64 x5, .int .i64 x6, .slice a n c]) (fun i => decide (i < 18)) (by kernel_rfl) (unhide HSS _ (Below.refl _ _).drew) (fun hHeld => ?_)
    obtain ⟨wd, hwd⟩ : ∃ z, w2.drew = z := ⟨_, rfl⟩
    have hbd : Below w2.heap.size w2 wd := by rw [← hwd]; exact (Below.refl _ _).drew
    have HBD := hide hbd
    rw [hwd] at hHeld ⊢
    clear hwd hbd
    refine Ed.wpAnyT_take (i := 0) (oi := { dst := some 7, op := Op.load 25 (Operand.tmp 1), type := 25, pos := "law.go:40", after := #[], guard := none }) (v := .agg #[.int .i64 k, .int .i64 x0, .int .i64 x1, .int .i64 x2, .int .i64 x3, .int .i64 x4, .int .i64 x5, .int .i64 x6, .slice a n c]) rfl (by kernel_rfl) (by kernel_rfl) (by kernel_rfl) (by kernel_rfl) (fun _ _ _ h => h) (Or.inl ⟨by rfl, ?_⟩) hHeld ?_
    · intro w hSw
      have s0 : w.cell? ⟨g, 0, none⟩ = some (.int .i64 k) := hSw.cell 0
      have s1 : w.cell? ⟨g, 1, none⟩ = some (.int .i64 x0) := hSw.cell 1
      have s2 : w.cell? ⟨g, 2, none⟩ = some (.int .i64 x1) := hSw.cell 2
      have s3 : w.cell? ⟨g, 3, none⟩ = some (.int .i64 x2) := hSw.cell 3
      have s4 : w.cell? ⟨g, 4, none⟩ = some (.int .i64 x3) := hSw.cell 4
      have s5 : w.cell? ⟨g, 5, none⟩ = some (.int .i64 x4) := hSw.cell 5
      have s6 : w.cell? ⟨g, 6, none⟩ = some (.int .i64 x5) := hSw.cell 6
      have s7 : w.cell? ⟨g, 7, none⟩ = some (.int .i64 x6) := hSw.cell 7
      have s8 : w.cell? ⟨g, 8, none⟩ = some (.slice a n c) := hSw.cell 8
      first
        | rfl
        | (go_simp; done)
    try simp only [Act.put, List.setIfInBounds_toArray, List.set_cons_zero, List.set_cons_succ]
    refine Ed.wpAnyT_take (i := 2) (oi := { dst := some 9, op := Op.load 25 (Operand.tmp 1), type := 25, pos := "law.go:40", after := #[], guard := none }) (v := .agg #[.int .i64 k, .int .i64 x0, .int .i64 x1, .int .i64 x2, .int .i64 x3, .int .i64 x4, .int .i64 x5, .int .i64 x6, .slice a n c]) rfl (by kernel_rfl) (by kernel_rfl) (by kernel_rfl) (by kernel_rfl) (fun _ _ _ h => h) (Or.inl ⟨by rfl, ?_⟩) hHeld ?_
    · intro w hSw
      have s0 : w.cell? ⟨g, 0, none⟩ = some (.int .i64 k) := hSw.cell 0
      have s1 : w.cell? ⟨g, 1, none⟩ = some (.int .i64 x0) := hSw.cell 1
      have s2 : w.cell? ⟨g, 2, none⟩ = some (.int .i64 x1) := hSw.cell 2
      have s3 : w.cell? ⟨g, 3, none⟩ = some (.int .i64 x2) := hSw.cell 3
      have s4 : w.cell? ⟨g, 4, none⟩ = some (.int .i64 x3) := hSw.cell 4
      have s5 : w.cell? ⟨g, 5, none⟩ = some (.int .i64 x4) := hSw.cell 5
      have s6 : w.cell? ⟨g, 6, none⟩ = some (.int .i64 x5) := hSw.cell 6
      have s7 : w.cell? ⟨g, 7, none⟩ = some (.int .i64 x6) := hSw.cell 7
      have s8 : w.cell? ⟨g, 8, none⟩ = some (.slice a n c) := hSw.cell 8
      first
        | rfl
        | (go_simp; done)
    try simp only [Act.put, List.setIfInBounds_toArray, List.set_cons_zero, List.set_cons_succ]
    refine Ed.wpAnyT_one (i := 1) (o := { dst := some 8, op := Op.call { callee := Callee.value (Operand.func 10), args := #[Operand.tmp 7], argTypes := #[25] }, type := 22, pos := "law.go:40", after := #[{ on := 0, ground := Ground.data }], guard := none }) (by kernel_rfl) rfl (fun K hK => ?_)
    go_simp
    refine Calls.mono (unhide HC1 wd (unhide HBW wd (unhide HBD)) hn5) ?_
    rintro e wE hE
    obtain ⟨z, rfl, hz, hzi, bE⟩ := hE
    have HZI := hide (And.intro hz hzi)
    have HBE := hide ((unhide HBD).trans (bE.mono (unhide HBD).size))
    clear hz hzi bE
    go_wp2_with fail
    refine hK.out _ _ (fun _ => unhide HSS _ (unhide HBE)) ?_
    clear hK K
    try simp only [Act.put, List.setIfInBounds_toArray, List.set_cons_zero, List.set_cons_succ]
    refine Ed.wpAnyT_one (i := 3) (o := { dst := some 10, op := Op.call { callee := Callee.value (Operand.func 11), args := #[Operand.tmp 9], argTypes := #[25] }, type := 22, pos := "law.go:40", after := #[{ on := 2, ground := Ground.data }, { on := 1, ground := Ground.chain }], guard := none }) (by kernel_rfl) rfl (fun K hK => ?_)
    go_simp
    refine Calls.mono (unhide HC2 wE (unhide HBW wE (unhide HBE)) hn5) ?_
    rintro e wF hE
    obtain ⟨y, rfl, hy, hyi, bF⟩ := hE
    obtain rfl : y = z := by
      obtain ⟨hz, hzi⟩ := unhide HZI
      rcases hz with rfl | rfl
      · exact hyi.2 (hzi.1 rfl)
      · rcases hy with rfl | rfl
        · have := hzi.2 (hyi.1 rfl); omega
        · rfl
    have HBF := hide ((unhide HBE).trans (bF.mono (unhide HBE).size))
    clear hy hyi bF HZI
    go_wp2_with fail
    refine hK.out _ _ (fun _ => unhide HSS _ (unhide HBF)) ?_
    clear hK K
    try simp only [Act.put, List.setIfInBounds_toArray, List.set_cons_zero, List.set_cons_succ]
    have hyy : (y == y) = true := beq_self_eq_true y
    refine Ed.wpAnyT_take (i := 4) (oi := { dst := some 11, op := Op.binOp BinOp.eql 22 (Operand.tmp 8) (Operand.tmp 10) 22, type := 4, pos := "law.go:40", after := #[{ on := 1, ground := Ground.data }, { on := 3, ground := Ground.data }], guard := none }) (v := .bool true) rfl (by kernel_rfl) (by kernel_rfl) (by kernel_rfl) (by kernel_rfl) (fun _ _ _ h => h) (Or.inl ⟨by rfl, ?_⟩) (unhide HSS _ (unhide HBF)) ?_
    · intro w hSw
      have s0 : w.cell? ⟨g, 0, none⟩ = some (.int .i64 k) := hSw.cell 0
      have s1 : w.cell? ⟨g, 1, none⟩ = some (.int .i64 x0) := hSw.cell 1
      have s2 : w.cell? ⟨g, 2, none⟩ = some (.int .i64 x1) := hSw.cell 2
      have s3 : w.cell? ⟨g, 3, none⟩ = some (.int .i64 x2) := hSw.cell 3
      have s4 : w.cell? ⟨g, 4, none⟩ = some (.int .i64 x3) := hSw.cell 4
      have s5 : w.cell? ⟨g, 5, none⟩ = some (.int .i64 x4) := hSw.cell 5
      have s6 : w.cell? ⟨g, 6, none⟩ = some (.int .i64 x5) := hSw.cell 6
      have s7 : w.cell? ⟨g, 7, none⟩ = some (.int .i64 x6) := hSw.cell 7
      have s8 : w.cell? ⟨g, 8, none⟩ = some (.slice a n c) := hSw.cell 8
      first
        | (simp only [Act.eval, hyy]; rfl)
        | (go_simp; done)
    try simp only [Act.put, List.setIfInBounds_toArray, List.set_cons_zero, List.set_cons_succ]
    refine Ed.wpAnyT_take (i := 5) (oi := { dst := some 12, op := Op.move (Operand.tmp 11), type := 4, pos := "law.go:40", after := #[{ on := 4, ground := Ground.data }, { on := 3, ground := Ground.chain }], guard := none }) (v := .bool true) rfl (by kernel_rfl) (by kernel_rfl) (by kernel_rfl) (by kernel_rfl) (fun _ _ _ h => h) (Or.inl ⟨by rfl, ?_⟩) (unhide HSS _ (unhide HBF)) ?_
    · intro w hSw
      have s0 : w.cell? ⟨g, 0, none⟩ = some (.int .i64 k) := hSw.cell 0
      have s1 : w.cell? ⟨g, 1, none⟩ = some (.int .i64 x0) := hSw.cell 1
      have s2 : w.cell? ⟨g, 2, none⟩ = some (.int .i64 x1) := hSw.cell 2
      have s3 : w.cell? ⟨g, 3, none⟩ = some (.int .i64 x2) := hSw.cell 3
      have s4 : w.cell? ⟨g, 4, none⟩ = some (.int .i64 x3) := hSw.cell 4
      have s5 : w.cell? ⟨g, 5, none⟩ = some (.int .i64 x4) := hSw.cell 5
      have s6 : w.cell? ⟨g, 6, none⟩ = some (.int .i64 x5) := hSw.cell 6
      have s7 : w.cell? ⟨g, 7, none⟩ = some (.int .i64 x6) := hSw.cell 7
      have s8 : w.cell? ⟨g, 8, none⟩ = some (.slice a n c) := hSw.cell 8
      first
        | rfl
        | (go_simp; done)
    try simp only [Act.put, List.setIfInBounds_toArray, List.set_cons_zero, List.set_cons_succ]
    refine Ed.wpAnyT_take (i := 6) (oi := { dst := some 13, op := Op.fieldAddr 25 (Operand.tmp 1) 8, type := 0, pos := "law.go:40", after := #[{ on := 5, ground := Ground.guard }], guard := some (5, true) }) (v := .pointer (some ⟨g, 8, none⟩)) rfl (by kernel_rfl) (by kernel_rfl) (by kernel_rfl) (by kernel_rfl) (fun _ _ _ h => h) (Or.inl ⟨by rfl, ?_⟩) (unhide HSS _ (unhide HBF)) ?_
    · intro w hSw
      have s0 : w.cell? ⟨g, 0, none⟩ = some (.int .i64 k) := hSw.cell 0
      have s1 : w.cell? ⟨g, 1, none⟩ = some (.int .i64 x0) := hSw.cell 1
      have s2 : w.cell? ⟨g, 2, none⟩ = some (.int .i64 x1) := hSw.cell 2
      have s3 : w.cell? ⟨g, 3, none⟩ = some (.int .i64 x2) := hSw.cell 3
      have s4 : w.cell? ⟨g, 4, none⟩ = some (.int .i64 x3) := hSw.cell 4
      have s5 : w.cell? ⟨g, 5, none⟩ = some (.int .i64 x4) := hSw.cell 5
      have s6 : w.cell? ⟨g, 6, none⟩ = some (.int .i64 x5) := hSw.cell 6
      have s7 : w.cell? ⟨g, 7, none⟩ = some (.int .i64 x6) := hSw.cell 7
      have s8 : w.cell? ⟨g, 8, none⟩ = some (.slice a n c) := hSw.cell 8
      first
        | rfl
        | (go_simp; done)
    try simp only [Act.put, List.setIfInBounds_toArray, List.set_cons_zero, List.set_cons_succ]
    refine Ed.wpAnyT_take (i := 7) (oi := { dst := some 14, op := Op.load 23 (Operand.tmp 13), type := 23, pos := "law.go:40", after := #[{ on := 6, ground := Ground.data }, { on := 5, ground := Ground.guard }], guard := some (5, true) }) (v := .slice a n c) rfl (by kernel_rfl) (by kernel_rfl) (by kernel_rfl) (by kernel_rfl) (fun _ _ _ h => h) (Or.inl ⟨by rfl, ?_⟩) (unhide HSS _ (unhide HBF)) ?_
    · intro w hSw
      have s0 : w.cell? ⟨g, 0, none⟩ = some (.int .i64 k) := hSw.cell 0
      have s1 : w.cell? ⟨g, 1, none⟩ = some (.int .i64 x0) := hSw.cell 1
      have s2 : w.cell? ⟨g, 2, none⟩ = some (.int .i64 x1) := hSw.cell 2
      have s3 : w.cell? ⟨g, 3, none⟩ = some (.int .i64 x2) := hSw.cell 3
      have s4 : w.cell? ⟨g, 4, none⟩ = some (.int .i64 x3) := hSw.cell 4
      have s5 : w.cell? ⟨g, 5, none⟩ = some (.int .i64 x4) := hSw.cell 5
      have s6 : w.cell? ⟨g, 6, none⟩ = some (.int .i64 x5) := hSw.cell 6
      have s7 : w.cell? ⟨g, 7, none⟩ = some (.int .i64 x6) := hSw.cell 7
      have s8 : w.cell? ⟨g, 8, none⟩ = some (.slice a n c) := hSw.cell 8
      first
        | rfl
        | (go_simp; done)
    try simp only [Act.put, List.setIfInBounds_toArray, List.set_cons_zero, List.set_cons_succ]
    refine Ed.wpAnyT_take (i := 9) (oi := { dst := some 16, op := Op.fieldAddr 25 (Operand.tmp 1) 8, type := 0, pos := "law.go:40", after := #[{ on := 5, ground := Ground.guard }], guard := some (5, true) }) (v := .pointer (some ⟨g, 8, none⟩)) rfl (by kernel_rfl) (by kernel_rfl) (by kernel_rfl) (by kernel_rfl) (fun _ _ _ h => h) (Or.inl ⟨by rfl, ?_⟩) (unhide HSS _ (unhide HBF)) ?_
    · intro w hSw
      have s0 : w.cell? ⟨g, 0, none⟩ = some (.int .i64 k) := hSw.cell 0
      have s1 : w.cell? ⟨g, 1, none⟩ = some (.int .i64 x0) := hSw.cell 1
      have s2 : w.cell? ⟨g, 2, none⟩ = some (.int .i64 x1) := hSw.cell 2
      have s3 : w.cell? ⟨g, 3, none⟩ = some (.int .i64 x2) := hSw.cell 3
      have s4 : w.cell? ⟨g, 4, none⟩ = some (.int .i64 x3) := hSw.cell 4
      have s5 : w.cell? ⟨g, 5, none⟩ = some (.int .i64 x4) := hSw.cell 5
      have s6 : w.cell? ⟨g, 6, none⟩ = some (.int .i64 x5) := hSw.cell 6
      have s7 : w.cell? ⟨g, 7, none⟩ = some (.int .i64 x6) := hSw.cell 7
      have s8 : w.cell? ⟨g, 8, none⟩ = some (.slice a n c) := hSw.cell 8
      first
        | rfl
        | (go_simp; done)
    try simp only [Act.put, List.setIfInBounds_toArray, List.set_cons_zero, List.set_cons_succ]
    refine Ed.wpAnyT_take (i := 10) (oi := { dst := some 17, op := Op.load 23 (Operand.tmp 16), type := 23, pos := "law.go:40", after := #[{ on := 9, ground := Ground.data }, { on := 5, ground := Ground.guard }], guard := some (5, true) }) (v := .slice a n c) rfl (by kernel_rfl) (by kernel_rfl) (by kernel_rfl) (by kernel_rfl) (fun _ _ _ h => h) (Or.inl ⟨by rfl, ?_⟩) (unhide HSS _ (unhide HBF)) ?_
    · intro w hSw
      have s0 : w.cell? ⟨g, 0, none⟩ = some (.int .i64 k) := hSw.cell 0
      have s1 : w.cell? ⟨g, 1, none⟩ = some (.int .i64 x0) := hSw.cell 1
      have s2 : w.cell? ⟨g, 2, none⟩ = some (.int .i64 x1) := hSw.cell 2
      have s3 : w.cell? ⟨g, 3, none⟩ = some (.int .i64 x2) := hSw.cell 3
      have s4 : w.cell? ⟨g, 4, none⟩ = some (.int .i64 x3) := hSw.cell 4
      have s5 : w.cell? ⟨g, 5, none⟩ = some (.int .i64 x4) := hSw.cell 5
      have s6 : w.cell? ⟨g, 6, none⟩ = some (.int .i64 x5) := hSw.cell 6
      have s7 : w.cell? ⟨g, 7, none⟩ = some (.int .i64 x6) := hSw.cell 7
      have s8 : w.cell? ⟨g, 8, none⟩ = some (.slice a n c) := hSw.cell 8
      first
        | rfl
        | (go_simp; done)
    try simp only [Act.put, List.setIfInBounds_toArray, List.set_cons_zero, List.set_cons_succ]
    refine Ed.wpAnyT_one (i := 8) (o := { dst := some 15, op := Op.call { callee := Callee.value (Operand.func 12), args := #[Operand.tmp 14], argTypes := #[23] }, type := 4, pos := "law.go:40", after := #[{ on := 7, ground := Ground.data }, { on := 5, ground := Ground.chain }, { on := 5, ground := Ground.guard }], guard := some (5, true) }) (by kernel_rfl) rfl (fun K hK => ?_)
    go_simp
    refine Calls.mono (unhide HL1 wF (unhide HBW wF (unhide HBF)) hn5) ?_
    rintro e wG ⟨rfl, bG⟩
    have HBG := hide ((unhide HBF).trans (bG.mono (unhide HBF).size))
    clear bG
    obtain ⟨lb, hlb⟩ : ∃ z, lightB l = z := ⟨_, rfl⟩
    rw [hlb]
    have HLB := hide hlb
    clear hlb
    go_wp2_with fail
    refine hK.out _ _ (fun _ => unhide HSS _ (unhide HBG)) ?_
    clear hK K
    try simp only [Act.put, List.setIfInBounds_toArray, List.set_cons_zero, List.set_cons_succ]
    refine Ed.wpAnyT_one (i := 11) (o := { dst := some 18, op := Op.call { callee := Callee.value (Operand.func 13), args := #[Operand.tmp 17], argTypes := #[23] }, type := 4, pos := "law.go:40", after := #[{ on := 10, ground := Ground.data }, { on := 8, ground := Ground.chain }, { on := 5, ground := Ground.guard }], guard := some (5, true) }) (by kernel_rfl) rfl (fun K hK => ?_)
    go_simp
    refine Calls.mono (unhide HL2 wG (unhide HBW wG (unhide HBG)) hn5) ?_
    rintro e wH ⟨rfl, bH⟩
    have HBH := hide ((unhide HBG).trans (bH.mono (unhide HBG).size))
    clear bH
    rw [unhide HLB]
    go_wp2_with fail
    refine hK.out _ _ (fun _ => unhide HSS _ (unhide HBH)) ?_
    clear hK K
    try simp only [Act.put, List.setIfInBounds_toArray, List.set_cons_zero, List.set_cons_succ]
    have hll : (lb == lb) = true := beq_self_eq_true lb
    refine Ed.wpAnyT_take (i := 12) (oi := { dst := some 19, op := Op.binOp BinOp.eql 4 (Operand.tmp 15) (Operand.tmp 18) 4, type := 4, pos := "law.go:40", after := #[{ on := 8, ground := Ground.data }, { on := 11, ground := Ground.data }, { on := 5, ground := Ground.guard }], guard := some (5, true) }) (v := .bool true) rfl (by kernel_rfl) (by kernel_rfl) (by kernel_rfl) (by kernel_rfl) (fun _ _ _ h => h) (Or.inl ⟨by rfl, ?_⟩) (unhide HSS _ (unhide HBH)) ?_
    · intro w hSw
      have s0 : w.cell? ⟨g, 0, none⟩ = some (.int .i64 k) := hSw.cell 0
      have s1 : w.cell? ⟨g, 1, none⟩ = some (.int .i64 x0) := hSw.cell 1
      have s2 : w.cell? ⟨g, 2, none⟩ = some (.int .i64 x1) := hSw.cell 2
      have s3 : w.cell? ⟨g, 3, none⟩ = some (.int .i64 x2) := hSw.cell 3
      have s4 : w.cell? ⟨g, 4, none⟩ = some (.int .i64 x3) := hSw.cell 4
      have s5 : w.cell? ⟨g, 5, none⟩ = some (.int .i64 x4) := hSw.cell 5
      have s6 : w.cell? ⟨g, 6, none⟩ = some (.int .i64 x5) := hSw.cell 6
      have s7 : w.cell? ⟨g, 7, none⟩ = some (.int .i64 x6) := hSw.cell 7
      have s8 : w.cell? ⟨g, 8, none⟩ = some (.slice a n c) := hSw.cell 8
      first
        | (simp only [Act.eval, hll]; rfl)
        | (go_simp; done)
    try simp only [Act.put, List.setIfInBounds_toArray, List.set_cons_zero, List.set_cons_succ]
    refine Ed.wpAnyT_take (i := 13) (oi := { dst := some 20, op := Op.pick (Operand.tmp 12) (Operand.tmp 19) (Operand.const (Value.bool false)), type := 4, pos := "law.go:40", after := #[{ on := 5, ground := Ground.data }, { on := 12, ground := Ground.data }], guard := none }) (v := .bool true) rfl (by kernel_rfl) (by kernel_rfl) (by kernel_rfl) (by kernel_rfl) (fun _ _ _ h => h) (Or.inl ⟨by rfl, ?_⟩) (unhide HSS _ (unhide HBH)) ?_
    · intro w hSw
      have s0 : w.cell? ⟨g, 0, none⟩ = some (.int .i64 k) := hSw.cell 0
      have s1 : w.cell? ⟨g, 1, none⟩ = some (.int .i64 x0) := hSw.cell 1
      have s2 : w.cell? ⟨g, 2, none⟩ = some (.int .i64 x1) := hSw.cell 2
      have s3 : w.cell? ⟨g, 3, none⟩ = some (.int .i64 x2) := hSw.cell 3
      have s4 : w.cell? ⟨g, 4, none⟩ = some (.int .i64 x3) := hSw.cell 4
      have s5 : w.cell? ⟨g, 5, none⟩ = some (.int .i64 x4) := hSw.cell 5
      have s6 : w.cell? ⟨g, 6, none⟩ = some (.int .i64 x5) := hSw.cell 6
      have s7 : w.cell? ⟨g, 7, none⟩ = some (.int .i64 x6) := hSw.cell 7
      have s8 : w.cell? ⟨g, 8, none⟩ = some (.slice a n c) := hSw.cell 8
      first
        | rfl
        | (go_simp; done)
    try simp only [Act.put, List.setIfInBounds_toArray, List.set_cons_zero, List.set_cons_succ]
    refine Ed.wpAnyT_take (i := 14) (oi := { dst := some 21, op := Op.move (Operand.tmp 20), type := 4, pos := "law.go:40", after := #[{ on := 13, ground := Ground.data }, { on := 11, ground := Ground.chain }], guard := none }) (v := .bool true) rfl (by kernel_rfl) (by kernel_rfl) (by kernel_rfl) (by kernel_rfl) (fun _ _ _ h => h) (Or.inl ⟨by rfl, ?_⟩) (unhide HSS _ (unhide HBH)) ?_
    · intro w hSw
      have s0 : w.cell? ⟨g, 0, none⟩ = some (.int .i64 k) := hSw.cell 0
      have s1 : w.cell? ⟨g, 1, none⟩ = some (.int .i64 x0) := hSw.cell 1
      have s2 : w.cell? ⟨g, 2, none⟩ = some (.int .i64 x1) := hSw.cell 2
      have s3 : w.cell? ⟨g, 3, none⟩ = some (.int .i64 x2) := hSw.cell 3
      have s4 : w.cell? ⟨g, 4, none⟩ = some (.int .i64 x3) := hSw.cell 4
      have s5 : w.cell? ⟨g, 5, none⟩ = some (.int .i64 x4) := hSw.cell 5
      have s6 : w.cell? ⟨g, 6, none⟩ = some (.int .i64 x5) := hSw.cell 6
      have s7 : w.cell? ⟨g, 7, none⟩ = some (.int .i64 x6) := hSw.cell 7
      have s8 : w.cell? ⟨g, 8, none⟩ = some (.slice a n c) := hSw.cell 8
      first
        | rfl
        | (go_simp; done)
    try simp only [Act.put, List.setIfInBounds_toArray, List.set_cons_zero, List.set_cons_succ]
    refine Ed.wpAnyT_one (i := 15) (o := { dst := some 22, op := Op.call { callee := Callee.value (Operand.func 9), args := #[], argTypes := #[] }, type := 4, pos := "law.go:40", after := #[{ on := 14, ground := Ground.chain }, { on := 14, ground := Ground.guard }], guard := some (14, true) }) (by kernel_rfl) rfl (fun K hK => ?_)
    go_simp
    refine Calls.mono (unhide HAW wH (unhide HBW wH (unhide HBH))) ?_
    rintro e wI ⟨rfl, bI⟩
    have HBI := hide ((unhide HBH).trans (bI.mono (unhide HBH).size))
    clear bI
    go_wp2_with fail
    refine hK.out _ _ (fun _ => unhide HSS _ (unhide HBI)) ?_
    clear hK K
    try simp only [Act.put, List.setIfInBounds_toArray, List.set_cons_zero, List.set_cons_succ]
    refine Ed.wpAnyT_take (i := 16) (oi := { dst := some 23, op := Op.pick (Operand.tmp 21) (Operand.tmp 22) (Operand.const (Value.bool false)), type := 4, pos := "law.go:40", after := #[{ on := 14, ground := Ground.data }, { on := 15, ground := Ground.data }], guard := none }) (v := .bool true) rfl (by kernel_rfl) (by kernel_rfl) (by kernel_rfl) (by kernel_rfl) (fun _ _ _ h => h) (Or.inl ⟨by rfl, ?_⟩) (unhide HSS _ (unhide HBI)) ?_
    · intro w hSw
      have s0 : w.cell? ⟨g, 0, none⟩ = some (.int .i64 k) := hSw.cell 0
      have s1 : w.cell? ⟨g, 1, none⟩ = some (.int .i64 x0) := hSw.cell 1
      have s2 : w.cell? ⟨g, 2, none⟩ = some (.int .i64 x1) := hSw.cell 2
      have s3 : w.cell? ⟨g, 3, none⟩ = some (.int .i64 x2) := hSw.cell 3
      have s4 : w.cell? ⟨g, 4, none⟩ = some (.int .i64 x3) := hSw.cell 4
      have s5 : w.cell? ⟨g, 5, none⟩ = some (.int .i64 x4) := hSw.cell 5
      have s6 : w.cell? ⟨g, 6, none⟩ = some (.int .i64 x5) := hSw.cell 6
      have s7 : w.cell? ⟨g, 7, none⟩ = some (.int .i64 x6) := hSw.cell 7
      have s8 : w.cell? ⟨g, 8, none⟩ = some (.slice a n c) := hSw.cell 8
      first
        | rfl
        | (go_simp; done)
    try simp only [Act.put, List.setIfInBounds_toArray, List.set_cons_zero, List.set_cons_succ]
    refine Ed.wpAnyT_take (i := 17) (oi := { dst := some 2, op := Op.assign (Operand.tmp 23), type := 4, pos := "law.go:40", after := #[{ on := 16, ground := Ground.data }, { on := 15, ground := Ground.chain }, { on := 0, ground := Ground.phase }, { on := 1, ground := Ground.phase }, { on := 2, ground := Ground.phase }, { on := 3, ground := Ground.phase }, { on := 4, ground := Ground.phase }, { on := 5, ground := Ground.phase }, { on := 6, ground := Ground.phase }, { on := 7, ground := Ground.phase }, { on := 8, ground := Ground.phase }, { on := 9, ground := Ground.phase }, { on := 10, ground := Ground.phase }, { on := 11, ground := Ground.phase }, { on := 12, ground := Ground.phase }, { on := 13, ground := Ground.phase }, { on := 14, ground := Ground.phase }, { on := 15, ground := Ground.phase }, { on := 16, ground := Ground.phase }], guard := none }) (v := .bool true) rfl (by kernel_rfl) (by kernel_rfl) (by kernel_rfl) (by kernel_rfl) (fun _ _ _ h => h) (Or.inl ⟨by rfl, ?_⟩) (unhide HSS _ (unhide HBI)) ?_
    · intro w hSw
      have s0 : w.cell? ⟨g, 0, none⟩ = some (.int .i64 k) := hSw.cell 0
      have s1 : w.cell? ⟨g, 1, none⟩ = some (.int .i64 x0) := hSw.cell 1
      have s2 : w.cell? ⟨g, 2, none⟩ = some (.int .i64 x1) := hSw.cell 2
      have s3 : w.cell? ⟨g, 3, none⟩ = some (.int .i64 x2) := hSw.cell 3
      have s4 : w.cell? ⟨g, 4, none⟩ = some (.int .i64 x3) := hSw.cell 4
      have s5 : w.cell? ⟨g, 5, none⟩ = some (.int .i64 x4) := hSw.cell 5
      have s6 : w.cell? ⟨g, 6, none⟩ = some (.int .i64 x5) := hSw.cell 6
      have s7 : w.cell? ⟨g, 7, none⟩ = some (.int .i64 x6) := hSw.cell 7
      have s8 : w.cell? ⟨g, 8, none⟩ = some (.slice a n c) := hSw.cell 8
      first
        | rfl
        | (go_simp; done)
    try simp only [Act.put, List.setIfInBounds_toArray, List.set_cons_zero, List.set_cons_succ]
    refine Ed.wpAnyT_done (by kernel_rfl) ?_ _
    go_wp2_with fail
    go_ret
    exact ⟨rfl, unhide HBW _ (unhide HBI)⟩
end Go.Proofs.YtbnfilhilgjnfaaDoor
