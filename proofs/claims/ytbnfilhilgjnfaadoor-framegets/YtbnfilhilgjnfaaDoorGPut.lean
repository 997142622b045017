/- A message as bytes: the program's answer. -/
import Derived.Test.YtbnfilhilgjnfaaDoorGPu0
namespace Go.Proofs.YtbnfilhilgjnfaaDoor
set_option linter.unusedVariables false
set_option linter.unusedSimpArgs false
open Go.ChangeShapes Go.WideShapes Go.ChangeAt Go.RowKit Go.Joins

def PuR (k x0 x1 x2 x3 x4 x5 x6 : Int) (l : List Ed.Pt) (w : World) (e : Ending) (w' : World) : Prop := Below w.heap.size w w' ∧ (MsgOk k (nsF x0 x1 x2 x3 x4 x5 x6) l → ∃ v, e = .returned (.tuple #[v, .int .i64 0]) ∧ w'.ownsRow w.heap.size 5 1 v (msgL k x0 x1 x2 x3 x4 x5 x6 l).length (bv (msgL k x0 x1 x2 x3 x4 x5 x6 l))) ∧ (¬ MsgOk k (nsF x0 x1 x2 x3 x4 x5 x6) l → e = .returned (.tuple #[.slice none 0 0, .int .i64 120]))
theorem msgN_pos {k x0 x1 x2 x3 x4 x5 x6 : Int} {l : List Ed.Pt} (h : MsgOk k (nsF x0 x1 x2 x3 x4 x5 x6) l) (n : Nat) (hn : n ≤ 400) (i : Nat) (hi : i < 9) : 0 ≤ msgN k x0 x1 x2 x3 x4 x5 x6 n i ∧ msgN k x0 x1 x2 x3 x4 x5 x6 n i ≤ 9223372036854775807 := by
  obtain ⟨h1, h2, h3, _⟩ := h
  have hm : ∀ j, j < 7 → limN k.toNat j ≤ 1099511627776 := by
    intro j hj
    unfold limN
    split
    · have : ∀ j, j < 7 → mostL.getD j 0 ≤ 1099511627776 := by decide
      have := this j hj
      omega
    · omega
  have : i = 0 ∨ i = 1 ∨ i = 2 ∨ i = 3 ∨ i = 4 ∨ i = 5 ∨ i = 6 ∨ i = 7 ∨ i = 8 := by omega
  rcases this with rfl | rfl | rfl | rfl | rfl | rfl | rfl | rfl | rfl
  · exact ⟨by show 0 ≤ k; omega, by show k ≤ _; omega⟩
  · have h := h3 0 (by omega); have h9 := hm 0 (by omega); exact ⟨by show 0 ≤ x0; exact h.1, by show x0 ≤ _; have : nsF x0 x1 x2 x3 x4 x5 x6 0 = x0 := rfl; omega⟩
  · have h := h3 1 (by omega); have h9 := hm 1 (by omega); exact ⟨by show 0 ≤ x1; exact h.1, by show x1 ≤ _; have : nsF x0 x1 x2 x3 x4 x5 x6 1 = x1 := rfl; omega⟩
  · have h := h3 2 (by omega); have h9 := hm 2 (by omega); exact ⟨by show 0 ≤ x2; exact h.1, by show x2 ≤ _; have : nsF x0 x1 x2 x3 x4 x5 x6 2 = x2 := rfl; omega⟩
  · have h := h3 3 (by omega); have h9 := hm 3 (by omega); exact ⟨by show 0 ≤ x3; exact h.1, by show x3 ≤ _; have : nsF x0 x1 x2 x3 x4 x5 x6 3 = x3 := rfl; omega⟩
  · have h := h3 4 (by omega); have h9 := hm 4 (by omega); exact ⟨by show 0 ≤ x4; exact h.1, by show x4 ≤ _; have : nsF x0 x1 x2 x3 x4 x5 x6 4 = x4 := rfl; omega⟩
  · have h := h3 5 (by omega); have h9 := hm 5 (by omega); exact ⟨by show 0 ≤ x5; exact h.1, by show x5 ≤ _; have : nsF x0 x1 x2 x3 x4 x5 x6 5 = x5 := rfl; omega⟩
  · have h := h3 6 (by omega); have h9 := hm 6 (by omega); exact ⟨by show 0 ≤ x6; exact h.1, by show x6 ≤ _; have : nsF x0 x1 x2 x3 x4 x5 x6 6 = x6 := rfl; omega⟩
  · exact ⟨by show (0 : Int) ≤ (n : Int); omega, by show (n : Int) ≤ _; omega⟩
set_option maxRecDepth 100000 in
set_option maxHeartbeats 8000000 in
theorem fput_any (k x0 x1 x2 x3 x4 x5 x6 : Int) (a : Option Addr) (l : List Ed.Pt) (c : Nat) (w : World) (hF : FTab w) (hM : MTab w) (hT : Ed.UT w) (hp : Ed.PtsAt w a l) (hc : l.length ≤ 4000) (hs : ∀ p ∈ l, p.text.size ≤ 281474976710656) :
    Calls Tryd.prog 14 #[msgV k x0 x1 x2 x3 x4 x5 x6 (.slice a l.length c)] w fun e w' => PuR k x0 x1 x2 x3 x4 x5 x6 l w e w' := by
  have HCK : Hid (∀ w1, Below w.heap.size w w1 → Calls Tryd.prog 10 #[msgV k x0 x1 x2 x3 x4 x5 x6 (.slice a l.length c)] w1 fun e w' => CkR k (nsF x0 x1 x2 x3 x4 x5 x6) l w1 e w') := hide (fun w1 hb => check_any k x0 x1 x2 x3 x4 x5 x6 a l c w1 (Tab.below hF hb hF.lt) (Tab.below hM hb hM.lt) (hT.call hb) (hp.call hb) hc hs)
  obtain ⟨n, hn⟩ : ∃ n, l.length = n := ⟨_, rfl⟩
  rw [hn] at HCK ⊢
  have HN := hide hn
  have HP := hide hp
  clear hF hM hT hp hc hs hn
  have b1 : Below w.heap.size w (w.alloc (.cells #[.int .i64 k, .int .i64 x0, .int .i64 x1, .int .i64 x2, .int .i64 x3, .int .i64 x4, .int .i64 x5, .int .i64 x6, .slice a n c] 25)) := (Below.refl _ _).alloc (Nat.le_refl _) _
  have HC1 := hide (unhide HCK _ b1)
  have HR := hide (RowAt.new w 25 [.int .i64 k, .int .i64 x0, .int .i64 x1, .int .i64 x2, .int .i64 x3, .int .i64 x4, .int .i64 x5, .int .i64 x6, .slice a n c])
  have HB1 := hide b1
  clear HCK b1
  unfold msgV at *
  have c0 : (w.alloc (.cells #[.int .i64 k, .int .i64 x0, .int .i64 x1, .int .i64 x2, .int .i64 x3, .int .i64 x4, .int .i64 x5, .int .i64 x6, .slice a n c] 25)).cell? ⟨w.heap.size, 0, none⟩ = some (.int .i64 k) := (unhide HR).cell 0
  have c1 : (w.alloc (.cells #[.int .i64 k, .int .i64 x0, .int .i64 x1, .int .i64 x2, .int .i64 x3, .int .i64 x4, .int .i64 x5, .int .i64 x6, .slice a n c] 25)).cell? ⟨w.heap.size, 1, none⟩ = some (.int .i64 x0) := (unhide HR).cell 1
  have c2 : (w.alloc (.cells #[.int .i64 k, .int .i64 x0, .int .i64 x1, .int .i64 x2, .int .i64 x3, .int .i64 x4, .int .i64 x5, .int .i64 x6, .slice a n c] 25)).cell? ⟨w.heap.size, 2, none⟩ = some (.int .i64 x1) := (unhide HR).cell 2
  have c3 : (w.alloc (.cells #[.int .i64 k, .int .i64 x0, .int .i64 x1, .int .i64 x2, .int .i64 x3, .int .i64 x4, .int .i64 x5, .int .i64 x6, .slice a n c] 25)).cell? ⟨w.heap.size, 3, none⟩ = some (.int .i64 x2) := (unhide HR).cell 3
  have c4 : (w.alloc (.cells #[.int .i64 k, .int .i64 x0, .int .i64 x1, .int .i64 x2, .int .i64 x3, .int .i64 x4, .int .i64 x5, .int .i64 x6, .slice a n c] 25)).cell? ⟨w.heap.size, 4, none⟩ = some (.int .i64 x3) := (unhide HR).cell 4
  have c5 : (w.alloc (.cells #[.int .i64 k, .int .i64 x0, .int .i64 x1, .int .i64 x2, .int .i64 x3, .int .i64 x4, .int .i64 x5, .int .i64 x6, .slice a n c] 25)).cell? ⟨w.heap.size, 5, none⟩ = some (.int .i64 x4) := (unhide HR).cell 5
  have c6 : (w.alloc (.cells #[.int .i64 k, .int .i64 x0, .int .i64 x1, .int .i64 x2, .int .i64 x3, .int .i64 x4, .int .i64 x5, .int .i64 x6, .slice a n c] 25)).cell? ⟨w.heap.size, 6, none⟩ = some (.int .i64 x5) := (unhide HR).cell 6
  have c7 : (w.alloc (.cells #[.int .i64 k, .int .i64 x0, .int .i64 x1, .int .i64 x2, .int .i64 x3, .int .i64 x4, .int .i64 x5, .int .i64 x6, .slice a n c] 25)).cell? ⟨w.heap.size, 7, none⟩ = some (.int .i64 x6) := (unhide HR).cell 7
  have c8 : (w.alloc (.cells #[.int .i64 k, .int .i64 x0, .int .i64 x1, .int .i64 x2, .int .i64 x3, .int .i64 x4, .int .i64 x5, .int .i64 x6, .slice a n c] 25)).cell? ⟨w.heap.size, 8, none⟩ = some (.slice a n c) := (unhide HR).cell 8
  go_enter Tryd.func14, Tryd.ntmps14
  go_wp2_with fail
  generalize w.alloc (.cells #[.int .i64 k, .int .i64 x0, .int .i64 x1, .int .i64 x2, .int .i64 x3, .int .i64 x4, .int .i64 x5, .int .i64 x6, .slice a n c] 25) = w1 at *
  refine Calls.mono (unhide HC1) ?_
  rintro e w2 ⟨z, rfl, hz, hiff, b2⟩
  have HR2 := hide ((unhide HR).below b2 (unhide HR).lt)
  have HB2 := hide ((unhide HB1).trans (b2.mono (by have := (unhide HB1).size; omega)))
  have HIF := hide hiff
  clear b2 hiff HC1 HB1 HR c0 c1 c2 c3 c4 c5 c6 c7 c8
  rcases hz with rfl | rfl
  · have HOK : Hid (MsgOk k (nsF x0 x1 x2 x3 x4 x5 x6) l) := hide ((unhide HIF).1 rfl)
    have HLF := hide (light_facts (unhide HOK).2.2.2.2)
    have hn4 : n ≤ 400 := by have := (unhide HLF).1; rw [unhide HN] at this; exact this
    have c0 : w2.cell? ⟨w.heap.size, 0, none⟩ = some (.int .i64 k) := (unhide HR2).cell 0
    have c1 : w2.cell? ⟨w.heap.size, 1, none⟩ = some (.int .i64 x0) := (unhide HR2).cell 1
    have c2 : w2.cell? ⟨w.heap.size, 2, none⟩ = some (.int .i64 x1) := (unhide HR2).cell 2
    have c3 : w2.cell? ⟨w.heap.size, 3, none⟩ = some (.int .i64 x2) := (unhide HR2).cell 3
    have c4 : w2.cell? ⟨w.heap.size, 4, none⟩ = some (.int .i64 x3) := (unhide HR2).cell 4
    have c5 : w2.cell? ⟨w.heap.size, 5, none⟩ = some (.int .i64 x4) := (unhide HR2).cell 5
    have c6 : w2.cell? ⟨w.heap.size, 6, none⟩ = some (.int .i64 x5) := (unhide HR2).cell 6
    have c7 : w2.cell? ⟨w.heap.size, 7, none⟩ = some (.int .i64 x6) := (unhide HR2).cell 7
    have c8 : w2.cell? ⟨w.heap.size, 8, none⟩ = some (.slice a n c) := (unhide HR2).cell 8
    have b3 : Below w2.heap.size w2 (w2.alloc (.cells #[.int .i64 k, .int .i64 x0, .int .i64 x1, .int .i64 x2, .int .i64 x3, .int .i64 x4, .int .i64 x5, .int .i64 x6, .int .i64 (n : Int)] 3)) := (Below.refl _ _).alloc (Nat.le_refl _) _
    have R3 := RowAt.new w2 3 [.int .i64 k, .int .i64 x0, .int .i64 x1, .int .i64 x2, .int .i64 x3, .int .i64 x4, .int .i64 x5, .int .i64 x6, .int .i64 (n : Int)]
    have HPT := hide (put_any (.slice none 0 0) [] w2.heap.size 9 9 (msgN k x0 x1 x2 x3 x4 x5 x6 n) (w2.alloc (.cells #[.int .i64 k, .int .i64 x0, .int .i64 x1, .int .i64 x2, .int .i64 x3, .int .i64 x4, .int .i64 x5, .int .i64 x6, .int .i64 (n : Int)] 3)) (.inl ⟨rfl, rfl⟩) (by simp) (by omega) (by simp) (fun i hi => by
      refine ⟨?_, msgN_pos (unhide HOK) n hn4 i hi⟩
      have : i = 0 ∨ i = 1 ∨ i = 2 ∨ i = 3 ∨ i = 4 ∨ i = 5 ∨ i = 6 ∨ i = 7 ∨ i = 8 := by omega
      rcases this with rfl | rfl | rfl | rfl | rfl | rfl | rfl | rfl | rfl
      · exact R3.cell 0
      · exact R3.cell 1
      · exact R3.cell 2
      · exact R3.cell 3
      · exact R3.cell 4
      · exact R3.cell 5
      · exact R3.cell 6
      · exact R3.cell 7
      · exact R3.cell 8))
    have HB3 := hide b3
    clear b3 R3
    go_wp2_with fail
    generalize w2.alloc (.cells #[.int .i64 k, .int .i64 x0, .int .i64 x1, .int .i64 x2, .int .i64 x3, .int .i64 x4, .int .i64 x5, .int .i64 x6, .int .i64 (n : Int)] 3) = w3 at *
    refine Calls.mono (unhide HPT) ?_
    rintro e w4 ⟨v4, rfl, o4, b4⟩
    have HO4 := hide (own_base o4 (unhide HB3).size)
    have HB4 := hide ((unhide HB3).trans (b4.mono (unhide HB3).size))
    have HR4 := hide ((unhide HR2).below (unhide HB4) (unhide HR2).lt)
    have d8 : w4.cell? ⟨w.heap.size, 8, none⟩ = some (.slice a n c) := (unhide HR4).cell 8
    obtain ⟨HD, hHD⟩ : ∃ HD, putN [] (msgN k x0 x1 x2 x3 x4 x5 x6 n) 9 = HD := ⟨_, rfl⟩
    have HHL : Hid (HD.length = 72) := hide (by rw [← hHD, putN_len]; rfl)
    rw [hHD] at HO4
    have HHD := hide hHD
    clear o4 b4 HPT HB3 HR2 c0 c1 c2 c3 c4 c5 c6 c7 c8 hHD
    go_wp2_with fail
    clear d8
    obtain ⟨B, hB⟩ : ∃ B, w2.heap.size = B := ⟨_, rfl⟩
    rw [hB] at HO4 HB4
    have HBB := hide hB
    clear hB
    go_loopw [5, 37] (fun v i wr => ∃ j : Nat, j ≤ n ∧ i = .int .i64 (j : Int) ∧ Hid (wr.ownsRow B 5 1 v (HD ++ prts (l.take j)).length (bv (HD ++ prts (l.take j)))) ∧ Hid (Below B w2 wr)) (fun _ i _ => ((n : Int) - intOf i).toNat)
    case atStart => exact ⟨0, by omega, by simp, by simpa [prts] using HO4, HB4⟩
    case round =>
      obtain ⟨j, hj, rfl, HOW, HBW⟩ := hrel
      have HLJ : Hid ((HD ++ prts (l.take j)).length ≤ 20000) := hide (by rw [List.length_append, unhide HHL, prts_len, List.length_take]; have := sumS_take l j; have := (unhide HLF).2.2; omega)
      by_cases hlt : j < n
      · have kI : (j : Int) < (n : Int) := by omega
        obtain ⟨p, hpk⟩ : ∃ p, l[j]? = some p := ⟨_, List.getElem?_eq_getElem (by have := unhide HN; omega)⟩
        have HBX : Hid (Below w.heap.size w wr) := hide ((unhide HB2).trans ((unhide HBW).mono (by rw [← unhide HBB]; exact (unhide HB2).size)))
        obtain ⟨b, off, rfl, e0, e1, e2⟩ := (unhide HP).at_ (unhide HBX) hpk
        have HST := hide (prts_take hpk)
        have HFS := hide (fits_size ((unhide HLF).2.1 p (List.mem_of_getElem? hpk)))
        have HSZ : Hid (p.text.size ≤ 4000000000000000 ∧ p.text.size ≤ 100000000) := hide (by
          have h1 : p.text.size ≤ sumS l := by
            have : sumS (l.take (j + 1)) = sumS (l.take j) + p.text.size := by unfold sumS; rw [List.take_add_one, hpk]; simp
            have := sumS_take l (j + 1)
            omega
          have := (unhide HLF).2.2
          omega)
        have hbA : Below wr.heap.size wr (wr.alloc (.cells #[.int .i64 p.kind, .int .i64 p.n, .string p.text] 44)) := (Below.refl _ _).alloc (Nat.le_refl _) _
        have HRW := hide (RowAt.new wr 44 [.int .i64 p.kind, .int .i64 p.n, .string p.text])
        have HOA := hide (own_call (unhide HOW) hbA)
        have HBS : Hid (B ≤ w2.heap.size) := hide (by rw [unhide HBB]; exact Nat.le_refl _)
        have HBA := hide ((unhide HBW).trans (hbA.mono (Nat.le_trans (unhide HBS) (unhide HBW).size)))
        have HKG : Hid (∀ k, u5.ownBlock = some k → k < wr.heap.size) := hide (fun k hk => ((unhide HOW).lt k hk).2)
        clear hpk hbA HOW
        obtain ⟨LJ, hLJ⟩ : ∃ LJ, HD ++ prts (l.take j) = LJ := ⟨_, rfl⟩
        have HLE : Hid (HD ++ prts (l.take (j + 1)) = LJ ++ prt p) := hide (by rw [unhide HST, ← hLJ, List.append_assoc])
        rw [hLJ] at HOA HLJ
        clear hLJ
        go_wp2_with fail
        obtain ⟨wA, hA⟩ : ∃ wA, wr.alloc (.cells #[.int .i64 p.kind, .int .i64 p.n, .string p.text] 44) = wA := ⟨_, rfl⟩
        rw [hA] at HRW HOA HBA ⊢
        clear hA e0 e1 e2 HBX HBW
        obtain ⟨gd, hgd⟩ : ∃ gd, wr.heap.size = gd := ⟨_, rfl⟩
        rw [hgd] at HRW HKG ⊢
        clear hgd
        have HSS : Hid (∀ W, Below wA.heap.size wA W → W.cell? ⟨gd, 0, none⟩ = some (.int .i64 p.kind) ∧ W.cell? ⟨gd, 1, none⟩ = some (.int .i64 p.n) ∧ W.cell? ⟨gd, 2, none⟩ = some (.string p.text)) := hide (fun W hW => ⟨((unhide HRW).below hW (unhide HRW).lt).cell 0, ((unhide HRW).below hW (unhide HRW).lt).cell 1, ((unhide HRW).below hW (unhide HRW).lt).cell 2⟩)
        refine Ed.wp_region_T (S := fun W => W.cell? ⟨gd, 0, none⟩ = some (.int .i64 p.kind) ∧ W.cell? ⟨gd, 1, none⟩ = some (.int .i64 p.n) ∧ W.cell? ⟨gd, 2, none⟩ = some (.string p.text)) (fun i => decide (i < 12)) (by kernel_rfl) (unhide HSS _ (Below.refl _ _).drew) (fun hHeld => ?_)
        obtain ⟨wd, hwd⟩ : ∃ z, wA.drew = z := ⟨_, rfl⟩
        have hbd : Below wA.heap.size wA wd := by rw [← hwd]; exact (Below.refl _ _).drew
        have HBD := hide hbd
        rw [hwd] at hHeld ⊢
        clear hwd hbd
        refine Ed.wpAnyT_take (i := 0) (oi := { dst := some 41, op := Op.move (Operand.tmp 5), type := 30, pos := "message.go:76", after := #[], guard := none }) (v := u5) rfl (by kernel_rfl) (by kernel_rfl) (by kernel_rfl) (by kernel_rfl) (fun _ _ _ h => h) (Or.inl ⟨by rfl, ?_⟩) hHeld ?_
        · intro w hSw
          obtain ⟨s0, s1, s2⟩ := hSw
          first
            | rfl
            | (go_simp; done)
        try simp only [Act.put, List.setIfInBounds_toArray, List.set_cons_zero, List.set_cons_succ]
        refine Ed.wpAnyT_take (i := 1) (oi := { dst := some 42, op := Op.fieldAddr 44 (Operand.tmp 7) 0, type := 0, pos := "message.go:76", after := #[], guard := none }) (v := .pointer (some ⟨gd, 0, none⟩)) rfl (by kernel_rfl) (by kernel_rfl) (by kernel_rfl) (by kernel_rfl) (fun _ _ _ h => h) (Or.inl ⟨by rfl, ?_⟩) hHeld ?_
        · intro w hSw
          obtain ⟨s0, s1, s2⟩ := hSw
          first
            | rfl
            | (go_simp; done)
        try simp only [Act.put, List.setIfInBounds_toArray, List.set_cons_zero, List.set_cons_succ]
        refine Ed.wpAnyT_take (i := 2) (oi := { dst := some 43, op := Op.load 3 (Operand.tmp 42), type := 3, pos := "message.go:76", after := #[{ on := 1, ground := Ground.data }], guard := none }) (v := .int .i64 p.kind) rfl (by kernel_rfl) (by kernel_rfl) (by kernel_rfl) (by kernel_rfl) (fun _ _ _ h => h) (Or.inl ⟨by rfl, ?_⟩) hHeld ?_
        · intro w hSw
          obtain ⟨s0, s1, s2⟩ := hSw
          first
            | rfl
            | (go_simp; done)
        try simp only [Act.put, List.setIfInBounds_toArray, List.set_cons_zero, List.set_cons_succ]
        refine Ed.wpAnyT_take (i := 3) (oi := { dst := some 44, op := Op.fieldAddr 44 (Operand.tmp 7) 1, type := 0, pos := "message.go:76", after := #[], guard := none }) (v := .pointer (some ⟨gd, 1, none⟩)) rfl (by kernel_rfl) (by kernel_rfl) (by kernel_rfl) (by kernel_rfl) (fun _ _ _ h => h) (Or.inl ⟨by rfl, ?_⟩) hHeld ?_
        · intro w hSw
          obtain ⟨s0, s1, s2⟩ := hSw
          first
            | rfl
            | (go_simp; done)
        try simp only [Act.put, List.setIfInBounds_toArray, List.set_cons_zero, List.set_cons_succ]
        refine Ed.wpAnyT_take (i := 4) (oi := { dst := some 45, op := Op.load 3 (Operand.tmp 44), type := 3, pos := "message.go:76", after := #[{ on := 3, ground := Ground.data }], guard := none }) (v := .int .i64 p.n) rfl (by kernel_rfl) (by kernel_rfl) (by kernel_rfl) (by kernel_rfl) (fun _ _ _ h => h) (Or.inl ⟨by rfl, ?_⟩) hHeld ?_
        · intro w hSw
          obtain ⟨s0, s1, s2⟩ := hSw
          first
            | rfl
            | (go_simp; done)
        try simp only [Act.put, List.setIfInBounds_toArray, List.set_cons_zero, List.set_cons_succ]
        refine Ed.wpAnyT_take (i := 7) (oi := { dst := some 48, op := Op.fieldAddr 44 (Operand.tmp 7) 2, type := 0, pos := "message.go:76", after := #[], guard := none }) (v := .pointer (some ⟨gd, 2, none⟩)) rfl (by kernel_rfl) (by kernel_rfl) (by kernel_rfl) (by kernel_rfl) (fun _ _ _ h => h) (Or.inl ⟨by rfl, ?_⟩) hHeld ?_
        · intro w hSw
          obtain ⟨s0, s1, s2⟩ := hSw
          first
            | rfl
            | (go_simp; done)
        try simp only [Act.put, List.setIfInBounds_toArray, List.set_cons_zero, List.set_cons_succ]
        refine Ed.wpAnyT_take (i := 8) (oi := { dst := some 49, op := Op.load 9 (Operand.tmp 48), type := 9, pos := "message.go:76", after := #[{ on := 7, ground := Ground.data }], guard := none }) (v := .string p.text) rfl (by kernel_rfl) (by kernel_rfl) (by kernel_rfl) (by kernel_rfl) (fun _ _ _ h => h) (Or.inl ⟨by rfl, ?_⟩) hHeld ?_
        · intro w hSw
          obtain ⟨s0, s1, s2⟩ := hSw
          first
            | rfl
            | (go_simp; done)
        try simp only [Act.put, List.setIfInBounds_toArray, List.set_cons_zero, List.set_cons_succ]
        refine Ed.wpAnyT_one (i := 5) (o := { dst := some 46, op := Op.buildSlice 53 2 #[(0, Operand.tmp 43), (1, Operand.tmp 45)], type := 53, pos := "message.go:76", after := #[{ on := 2, ground := Ground.data }, { on := 4, ground := Ground.data }], guard := none }) (by kernel_rfl) rfl (fun K hK => ?_)
        go_simp
        have hbE : Below wd.heap.size wd (wd.alloc (.cells #[.int .i64 p.kind, .int .i64 p.n] 3)) := (Below.refl _ _).alloc (Nat.le_refl _) _
        have HRE := hide (RowAt.new wd 3 [.int .i64 p.kind, .int .i64 p.n])
        have HBE := hide ((unhide HBD).trans (hbE.mono (unhide HBD).size))
        clear hbE
        obtain ⟨wE, hE⟩ : ∃ z, wd.alloc (.cells #[.int .i64 p.kind, .int .i64 p.n] 3) = z := ⟨_, rfl⟩
        obtain ⟨gE, hgE⟩ : ∃ z, wd.heap.size = z := ⟨_, rfl⟩
        rw [hE] at HRE HBE ⊢
        rw [hgE] at HRE ⊢
        clear hE hgE
        refine hK.out _ _ (fun _ => unhide HSS _ (unhide HBE)) ?_
        clear hK K
        try simp only [Act.put, List.setIfInBounds_toArray, List.set_cons_zero, List.set_cons_succ]
        refine Ed.wpAnyT_one (i := 6) (o := { dst := some 47, op := Op.call { callee := Callee.value (Operand.func 32), args := #[Operand.const (Value.slice none 0 0), Operand.tmp 46], argTypes := #[30, 53] }, type := 30, pos := "message.go:76", after := #[{ on := 5, ground := Ground.data }], guard := none }) (by kernel_rfl) rfl (fun K hK => ?_)
        go_simp
        refine Calls.mono (put_any (.slice none 0 0) [] gE 2 2 (prN p) wE (.inl ⟨rfl, rfl⟩) (by simp) (by omega) (unhide HRE).lt (fun i hi => by
          have h := unhide HFS
          have : i = 0 ∨ i = 1 := by omega
          rcases this with rfl | rfl
          · exact ⟨(unhide HRE).cell 0, by show 0 ≤ p.kind; omega, by show p.kind ≤ _; omega⟩
          · exact ⟨(unhide HRE).cell 1, by show 0 ≤ p.n; omega, by show p.n ≤ _; omega⟩)) ?_
        rintro e wF ⟨vF, rfl, oF, bF⟩
        have HYF := hide (Byt.of_own oF)
        have HBF := hide ((unhide HBE).trans (bF.mono (unhide HBE).size))
        clear oF bF
        go_wp2_with fail
        refine hK.out _ _ (fun _ => unhide HSS _ (unhide HBF)) ?_
        clear hK K
        try simp only [Act.put, List.setIfInBounds_toArray, List.set_cons_zero, List.set_cons_succ]
        refine Ed.wpAnyT_one (i := 9) (o := { dst := some 50, op := Op.call { callee := Callee.value (Operand.func 33), args := #[Operand.tmp 47, Operand.tmp 49], argTypes := #[30, 9] }, type := 30, pos := "message.go:76", after := #[{ on := 6, ground := Ground.data }, { on := 8, ground := Ground.data }, { on := 6, ground := Ground.chain }], guard := none }) (by kernel_rfl) rfl (fun K hK => ?_)
        go_simp
        refine Calls.mono (puttext_any vF _ p.text wF (unhide HYF) (by rw [putN_len]; simp) (unhide HSZ).2) ?_
        rintro e wG ⟨vG, rfl, oG, bG⟩
        have HYG := hide (Byt.of_own oG)
        have HBG := hide ((unhide HBF).trans (bG.mono (unhide HBF).size))
        clear oG bG
        obtain ⟨aG, cG, rfl⟩ := byt_shape (unhide HYG)
        go_wp2_with fail
        refine hK.out _ _ (fun _ => unhide HSS _ (unhide HBG)) ?_
        clear hK K
        try simp only [Act.put, List.setIfInBounds_toArray, List.set_cons_zero, List.set_cons_succ]
        refine Ed.wpAnyT_one (i := 10) (o := { dst := some 51, op := Op.call { callee := Callee.builtin Builtin.append, args := #[Operand.tmp 41, Operand.tmp 50], argTypes := #[30, 30] }, type := 30, pos := "message.go:76", after := #[{ on := 0, ground := Ground.data }, { on := 9, ground := Ground.data }, { on := 9, ground := Ground.chain }], guard := none }) (by kernel_rfl) rfl (fun K hK => ?_)
        obtain ⟨i0, hi, hz0, hz1, hz2⟩ := Go.info_parts info5
        have hsrc := byt_src (unhide HYG) rfl
        have HOG := hide (own_call (unhide HOA) (unhide HBG))
        refine wp_append_src wG (Operand.tmp 41) (Operand.tmp 50) 30 rfl B 5 i0 (.int .u8 0) 1 1 Tryd.underlying30 hi hz0 hz1 hz2 rfl (by decide) u5 LJ.length (bv LJ) rfl (unhide HOG) aG (putB (putN [] (prN p) 2) (txt p.text)).length cG (bv (prt p)) rfl (by rw [bv_len, Nat.mul_one]; rfl) hsrc.1 hsrc.2 (bv_one _) ?c1 ?c2 ?c3 ?_
        case c1 => have := unhide HLJ; have := (unhide HSZ).2; rw [putB_len, putN_len, txt_len]; unfold maxLen; simp; omega
        case c2 => have := unhide HLJ; have := (unhide HSZ).2; rw [putB_len, putN_len, txt_len]; simp; omega
        case c3 => exact Nat.le_trans (unhide HBS) (Nat.le_trans (unhide HBA).size (unhide HBG).size)
        intro aH cH wH oH gH kH
        have HBH : Hid (Below B w2 wH) := hide (((unhide HBA).trans ((unhide HBG).mono (Nat.le_trans (unhide HBS) (unhide HBA).size))).grown gH (Nat.le_trans (unhide HBS) (Nat.le_trans (unhide HBA).size (unhide HBG).size)) (fun k hk => ((unhide HOG).lt k hk).1))
        have HOH : Hid (wH.ownsRow B 5 1 (.slice aH (LJ.length + (putB (putN [] (prN p) 2) (txt p.text)).length) cH) (LJ ++ prt p).length (bv (LJ ++ prt p))) := hide (by rw [List.length_append, bv_append]; exact oH)
        have HSH : Hid (wH.cell? ⟨gd, 0, none⟩ = some (.int .i64 p.kind) ∧ wH.cell? ⟨gd, 1, none⟩ = some (.int .i64 p.n) ∧ wH.cell? ⟨gd, 2, none⟩ = some (.string p.text)) := hide (by
          have hG := unhide HSS _ (unhide HBG)
          have e : wH.heap[gd]? = wG.heap[gd]? := gH.block gd (Nat.lt_of_lt_of_le (unhide HRW).lt (unhide HBG).size) (fun h => by have := unhide HKG gd h.symm; omega)
          unfold World.cell? at hG ⊢
          simp only [e]
          exact hG)
        clear oH gH kH hsrc HOG hi hz0 hz1 hz2
        refine hK.out _ _ (fun _ => unhide HSH) ?_
        clear hK K
        try simp only [Act.put, List.setIfInBounds_toArray, List.set_cons_zero, List.set_cons_succ]
        refine Ed.wpAnyT_take (i := 11) (oi := { dst := some 5, op := Op.assign (Operand.tmp 51), type := 30, pos := "message.go:76", after := #[{ on := 10, ground := Ground.data }, { on := 10, ground := Ground.chain }, { on := 0, ground := Ground.phase }, { on := 1, ground := Ground.phase }, { on := 2, ground := Ground.phase }, { on := 3, ground := Ground.phase }, { on := 4, ground := Ground.phase }, { on := 5, ground := Ground.phase }, { on := 6, ground := Ground.phase }, { on := 7, ground := Ground.phase }, { on := 8, ground := Ground.phase }, { on := 9, ground := Ground.phase }, { on := 10, ground := Ground.phase }], guard := none }) (v := .slice aH (LJ.length + (putB (putN [] (prN p) 2) (txt p.text)).length) cH) rfl (by kernel_rfl) (by kernel_rfl) (by kernel_rfl) (by kernel_rfl) (fun _ _ _ h => h) (Or.inl ⟨by rfl, ?_⟩) (unhide HSH) ?_
        · intro w hSw
          obtain ⟨s0, s1, s2⟩ := hSw
          first
            | rfl
            | (go_simp; done)
        try simp only [Act.put, List.setIfInBounds_toArray, List.set_cons_zero, List.set_cons_succ]
        refine Ed.wpAnyT_done (by kernel_rfl) ?_ _
        go_wp2_with fail
        exact ⟨⟨j + 1, by omega, by simp, by rw [unhide HLE]; exact HOH, HBH⟩, by simp [intOf]; omega⟩
      · obtain rfl : n = j := by omega
        have kI : ¬ (n : Int) < (n : Int) := by omega
        have HO9 : Hid (wr.ownsRow B 5 1 u5 (msgL k x0 x1 x2 x3 x4 x5 x6 l).length (bv (msgL k x0 x1 x2 x3 x4 x5 x6 l))) := hide (by
          have h := unhide HOW
          rw [List.take_of_length_le (by rw [unhide HN]; exact Nat.le_refl _)] at h
          rw [msgL, unhide HN, unhide HHD]; exact h)
        have HBX : Hid (Below w.heap.size w wr) := hide ((unhide HB2).trans ((unhide HBW).mono (by rw [← unhide HBB]; exact (unhide HB2).size)))
        have HOK2 := HOK
        go_wp2_with fail
        go_ret2
        exact ⟨unhide HBX, fun _ => ⟨_, rfl, own_base (unhide HO9) (show w.heap.size ≤ B by rw [← unhide HBB]; exact (unhide HB2).size)⟩, fun h => absurd (unhide HOK2) h⟩
  · have HNO : Hid (¬ MsgOk k (nsF x0 x1 x2 x3 x4 x5 x6) l) := hide (fun h => by have := (unhide HIF).2 h; omega)
    go_wp2_with fail
    go_ret2
    exact ⟨unhide HB2, fun h => absurd h (unhide HNO), fun _ => rfl⟩
end Go.Proofs.YtbnfilhilgjnfaaDoor
