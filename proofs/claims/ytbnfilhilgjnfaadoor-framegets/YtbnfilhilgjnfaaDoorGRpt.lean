/- A message as bytes: the document's answer. -/
import Derived.Test.YtbnfilhilgjnfaaDoorGRck
import Derived.Test.YtbnfilhilgjnfaaDoorGPut
namespace Go.Proofs.YtbnfilhilgjnfaaDoor
set_option linter.unusedVariables false
set_option linter.unusedSimpArgs false
open Go.ChangeShapes Go.WideShapes Go.ChangeAt Go.RowKit Go.Joins

section
variable {P : Program} {md : Region.Mode} {ops : Array Oper} {Q : Exit → Act → World → Prop} {S : World → Prop} {hd : Nat → Bool}
/-- two that may come up -/
theorem wpAnyT_two {i j : Nat} {o o' : Oper} {fuel : Nat} {listed : Array Bool} {a : Act} {w : World} (hr : Region.ready md ops listed = [i, j]) (ho : ops[i]? = some o) (ho' : ops[j]? = some o')
    (h : ∀ K' : Act → World → Prop, Shut (∀ a w, (hd i = true → S w) → Ed.wpAnyT P md ops Q S hd fuel (listed.setIfInBounds i true) a w → K' a w) → if Region.wanted o (yielded ops a.tmps) = true then Oper.wp P o a w K' Q else K' (a.put o.dst undef) w)
    (h' : ∀ K' : Act → World → Prop, Shut (∀ a w, (hd j = true → S w) → Ed.wpAnyT P md ops Q S hd fuel (listed.setIfInBounds j true) a w → K' a w) → if Region.wanted o' (yielded ops a.tmps) = true then Oper.wp P o' a w K' Q else K' (a.put o'.dst undef) w) :
    Ed.wpAnyT P md ops Q S hd (fuel + 1) listed a w := by
  refine ⟨fun h0 => absurd (hr ▸ h0) (by simp), fun x hx => ?_⟩
  rw [hr] at hx
  rcases List.mem_cons.1 hx with rfl | hx
  · exact wpOp_step ho (fun K' hK => h K' (fun a w hS hW => hK a w ⟨hS, hW⟩))
  · obtain rfl := List.mem_singleton.1 hx
    exact wpOp_step ho' (fun K' hK => h' K' (fun a w hS hW => hK a w ⟨hS, hW⟩))
end
set_option maxRecDepth 100000 in
set_option maxHeartbeats 4000000 in
theorem rputbytes_any (v x : Value) (l d : List Nat) (w : World) (hv : Byt w v l) (hx : Byt w x d) (hl : l.length ≤ 100000000) (hd : d.length ≤ 100000000) :
    Calls Tryd.prog 35 #[v, x] w fun e w' => ∃ v', e = .returned v' ∧ w'.ownsRow w.heap.size 5 1 v' (putB l d).length (bv (putB l d)) ∧ Below w.heap.size w w' := by
  obtain ⟨i0, hi, hz0, hz1, hz2⟩ := Go.info_parts info5
  obtain ⟨ax, cx, rfl⟩ := byt_shape hx
  have b1 : Below w.heap.size w (w.alloc (.cells #[.int .i64 (d.length : Int)] 3)) := (Below.refl _ _).alloc (Nat.le_refl _) _
  have R1 := RowAt.new w 3 [.int .i64 (d.length : Int)]
  have HPT := hide (refputm_any v l (some ⟨w.heap.size, 0, none⟩) 1 1 (fun _ => (d.length : Int)) (w.alloc (.cells #[.int .i64 (d.length : Int)] 3)) (hv.call b1) hl (by omega) (.inr ⟨w.heap.size, 0, rfl, by simp, fun i hi => by
    obtain rfl : i = 0 := by omega
    exact R1.cell 0⟩) (fun i _ => by omega))
  have HX := hide hx
  have HB1 := hide b1
  clear hv hx b1 R1
  obtain ⟨n, hn⟩ : ∃ n, d.length = n := ⟨_, rfl⟩
  rw [hn] at HPT HX HB1 hd ⊢
  have HN := hide hn
  clear hn
  go_enter Tryd.func35, Tryd.ntmps35
  go_wp2_with fail
  generalize w.alloc (.cells #[.int .i64 (n : Int)] 3) = w1 at *
  refine Calls.mono (unhide HPT) ?_
  rintro e w2 ⟨v2, rfl, o2, b2⟩
  have HO2 := hide (own_base o2 (unhide HB1).size)
  have HB2 := hide ((unhide HB1).trans (b2.mono (unhide HB1).size))
  have HL2 : Hid ((putN l (fun _ => (n : Int)) 1).length = l.length + 8) := hide (by rw [putN_len])
  have HE2 : Hid (putN l (fun _ => (n : Int)) 1 ++ d = putB l d) := hide (by
    show (l ++ num8 ((n : Int)).toNat) ++ d = l ++ num8 d.length ++ d
    rw [Int.toNat_natCast, unhide HN])
  have hsrc := byt_src ((unhide HX).call (unhide HB2)) (unhide HN)
  clear o2 b2 HPT HB1
  go_wp2_with (at_builtin; refine wpList_append_src _ rfl _ _ 30 rfl w.heap.size 5 i0 (.int .u8 0) 1 1 Tryd.underlying30 hi hz0 hz1 hz2 rfl (by decide) _ _ _ rfl (unhide HO2) ax n cx (bv d) rfl (by rw [bv_len, unhide HN, Nat.mul_one]) hsrc.1 hsrc.2 (bv_one _) ?c3 ?c4 (unhide HB2).size ?_)
  case c3 => rw [unhide HL2]; unfold maxLen; omega
  case c4 => rw [unhide HL2]; omega
  intro a7 c7 w7 O7 g7
  have HFF : Hid (w7.ownsRow w.heap.size 5 1 (.slice a7 ((putN l (fun _ => (n : Int)) 1).length + n) c7) (putB l d).length (bv (putB l d)) ∧ Below w.heap.size w w7) := hide ⟨own_cast O7 (by rw [← unhide HE2, List.length_append, unhide HN]) (by rw [← unhide HE2, bv_append]), (unhide HB2).grown g7 (unhide HB2).size (fun k hk => ((unhide HO2).lt k hk).1)⟩
  clear O7 g7
  go_wp2_with fail
  go_ret
  exact ⟨_, rfl, (unhide HFF).1, (unhide HFF).2⟩
theorem prt_app (l : List Nat) (p : Ed.Pt) : putB (putN l (prN p) 2) (txt p.text) = l ++ prt p := by
  simp [putB, putN, prt, List.append_assoc]
def RpR (k x0 x1 x2 x3 x4 x5 x6 : Int) (l : List Ed.Pt) (w : World) (e : Ending) (w' : World) : Prop := Below w.heap.size w w' ∧ (MsgOk k (nsF x0 x1 x2 x3 x4 x5 x6) l → ∃ v, e = .returned (.tuple #[v, .int .i64 0]) ∧ Byt w' v (msgL k x0 x1 x2 x3 x4 x5 x6 l)) ∧ (¬ MsgOk k (nsF x0 x1 x2 x3 x4 x5 x6) l → e = .returned (.tuple #[.slice none 0 0, .int .i64 120]))
set_option maxRecDepth 100000 in
set_option maxHeartbeats 8000000 in
theorem rput_any (k x0 x1 x2 x3 x4 x5 x6 : Int) (a : Option Addr) (l : List Ed.Pt) (c : Nat) (w : World) (hp : Ed.PtsAt w a l) (hc : l.length ≤ 4000) (hs : ∀ p ∈ l, p.text.size ≤ 281474976710656) :
    Calls Tryd.prog 15 #[msgV k x0 x1 x2 x3 x4 x5 x6 (.slice a l.length c)] w fun e w' => RpR k x0 x1 x2 x3 x4 x5 x6 l w e w' := by
  have HCK : Hid (∀ w1, Below w.heap.size w w1 → Calls Tryd.prog 11 #[msgV k x0 x1 x2 x3 x4 x5 x6 (.slice a l.length c)] w1 fun e w' => CkR k (nsF x0 x1 x2 x3 x4 x5 x6) l w1 e w') := hide (fun w1 hb => rcheck_any k x0 x1 x2 x3 x4 x5 x6 a l c w1 (hp.call hb) hc hs)
  obtain ⟨n, hn⟩ : ∃ n, l.length = n := ⟨_, rfl⟩
  rw [hn] at HCK ⊢
  have HN := hide hn
  have HP := hide hp
  clear hp hc hs hn
  have b1 : Below w.heap.size w (w.alloc (.cells #[.int .i64 k, .int .i64 x0, .int .i64 x1, .int .i64 x2, .int .i64 x3, .int .i64 x4, .int .i64 x5, .int .i64 x6, .slice a n c] 25)) := (Below.refl _ _).alloc (Nat.le_refl _) _
  have HC1 := hide (unhide HCK _ b1)
  have HR := hide (RowAt.new w 25 [.int .i64 k, .int .i64 x0, .int .i64 x1, .int .i64 x2, .int .i64 x3, .int .i64 x4, .int .i64 x5, .int .i64 x6, .slice a n c])
  have HB1 := hide b1
  clear HCK b1
  unfold msgV at *
  have c0 : (w.alloc (.cells #[.int .i64 k, .int .i64 x0, .int .i64 x1, .int .i64 x2, .int .i64 x3, .int .i64 x4, .int .i64 x5, .int .i64 x6, .slice a n c] 25)).cell? ⟨w.heap.size, 0, none⟩ = some (.int .i64 k) := (unhide HR).cell 0
  have c1 : (w.alloc (.cells #[.int .i64 k, .int .i64 x0, .int .i64 x1, .int .i64 x2, .int .i64 x3, .int .i64 x4, .int .i64 x5, .int .i64 x6, .slice a n c] 25)).cell? ⟨w.heap.size, 1, none⟩ = some (.int .i64 x0) := (unhide HR).cell 1
  have c2 : (w.alloc (.cells #[.int .i64 k, .int .i64 x0, .int .i64 x1, .int .i64 x2, .int .i64 x3, .int .i64 x4, .int .i64 x5, .int .i64 x6, .slice a n c] 25)).cell? ⟨w.heap.size, 2, none⟩ = some (.int .i64 x1) := (unhide HR).cell 2
  have c3 : (w.alloc (.cells #[.int .i64 k, .int .i64 x0, .int .i64 x1, .int .i64 x2, .int .i64 x3, .int .i64 x4, .int .i64 x5, .int .i64 x6, .slice a n c] 25)).cell? ⟨w.heap.size, 3, none⟩ = some (.int .i64 x2) := (unhide HR).cell 3
  have c4 : (w.alloc (.cells #[.int .i64 k, .int .i64 x0, .int .i64 x1, .int .i64 x2, .int .i64 x3, .int .i64 x4, .int .i64 x5, .int .i64 x6, .slice a n c] 25)).cell? ⟨w.heap.size, 4, none⟩ = some (.int .i64 x3) := (unhide HR).cell 4
  have c5 : (w.alloc (.cells #[.int .i64 k, .int .i64 x0, .int .i64 x1, .int .i64 x2, .int .i64 x3, .int .i64 x4, .int .i64 x5, .int .i64 x6, .slice a n c] 25)).cell? ⟨w.heap.size, 5, none⟩ = some (.int .i64 x4) := (unhide HR).cell 5
  have c6 : (w.alloc (.cells #[.int .i64 k, .int .i64 x0, .int .i64 x1, .int .i64 x2, .int .i64 x3, .int .i64 x4, .int .i64 x5, .int .i64 x6, .slice a n c] 25)).cell? ⟨w.heap.size, 6, none⟩ = some (.int .i64 x5) := (unhide HR).cell 6
  have c7 : (w.alloc (.cells #[.int .i64 k, .int .i64 x0, .int .i64 x1, .int .i64 x2, .int .i64 x3, .int .i64 x4, .int .i64 x5, .int .i64 x6, .slice a n c] 25)).cell? ⟨w.heap.size, 7, none⟩ = some (.int .i64 x6) := (unhide HR).cell 7
  have c8 : (w.alloc (.cells #[.int .i64 k, .int .i64 x0, .int .i64 x1, .int .i64 x2, .int .i64 x3, .int .i64 x4, .int .i64 x5, .int .i64 x6, .slice a n c] 25)).cell? ⟨w.heap.size, 8, none⟩ = some (.slice a n c) := (unhide HR).cell 8
  go_enter Tryd.func15, Tryd.ntmps15
  go_wp2_with fail
  generalize w.alloc (.cells #[.int .i64 k, .int .i64 x0, .int .i64 x1, .int .i64 x2, .int .i64 x3, .int .i64 x4, .int .i64 x5, .int .i64 x6, .slice a n c] 25) = w1 at *
  refine Calls.mono (unhide HC1) ?_
  rintro e w2 ⟨z, rfl, hz, hiff, b2⟩
  have HR2 := hide ((unhide HR).below b2 (unhide HR).lt)
  have HB2 := hide ((unhide HB1).trans (b2.mono (by have := (unhide HB1).size; omega)))
  have HIF := hide hiff
  clear b2 hiff HC1 HB1 HR c0 c1 c2 c3 c4 c5 c6 c7 c8
  rcases hz with rfl | rfl
  · have HOK : Hid (MsgOk k (nsF x0 x1 x2 x3 x4 x5 x6) l) := hide ((unhide HIF).1 rfl)
    have HLF := hide (light_facts (unhide HOK).2.2.2.2)
    have hn4 : n ≤ 400 := by have := (unhide HLF).1; rw [unhide HN] at this; exact this
    have c0 : w2.cell? ⟨w.heap.size, 0, none⟩ = some (.int .i64 k) := (unhide HR2).cell 0
    have c1 : w2.cell? ⟨w.heap.size, 1, none⟩ = some (.int .i64 x0) := (unhide HR2).cell 1
    have c2 : w2.cell? ⟨w.heap.size, 2, none⟩ = some (.int .i64 x1) := (unhide HR2).cell 2
    have c3 : w2.cell? ⟨w.heap.size, 3, none⟩ = some (.int .i64 x2) := (unhide HR2).cell 3
    have c4 : w2.cell? ⟨w.heap.size, 4, none⟩ = some (.int .i64 x3) := (unhide HR2).cell 4
    have c5 : w2.cell? ⟨w.heap.size, 5, none⟩ = some (.int .i64 x4) := (unhide HR2).cell 5
    have c6 : w2.cell? ⟨w.heap.size, 6, none⟩ = some (.int .i64 x5) := (unhide HR2).cell 6
    have c7 : w2.cell? ⟨w.heap.size, 7, none⟩ = some (.int .i64 x6) := (unhide HR2).cell 7
    have c8 : w2.cell? ⟨w.heap.size, 8, none⟩ = some (.slice a n c) := (unhide HR2).cell 8
    have b3 : Below w2.heap.size w2 (w2.alloc (.cells #[.int .i64 k, .int .i64 x0, .int .i64 x1, .int .i64 x2, .int .i64 x3, .int .i64 x4, .int .i64 x5, .int .i64 x6, .int .i64 (n : Int)] 3)) := (Below.refl _ _).alloc (Nat.le_refl _) _
    have R3 := RowAt.new w2 3 [.int .i64 k, .int .i64 x0, .int .i64 x1, .int .i64 x2, .int .i64 x3, .int .i64 x4, .int .i64 x5, .int .i64 x6, .int .i64 (n : Int)]
    have HPT := hide (refputm_any (.slice none 0 0) [] (some ⟨w2.heap.size, 0, none⟩) 9 9 (msgN k x0 x1 x2 x3 x4 x5 x6 n) (w2.alloc (.cells #[.int .i64 k, .int .i64 x0, .int .i64 x1, .int .i64 x2, .int .i64 x3, .int .i64 x4, .int .i64 x5, .int .i64 x6, .int .i64 (n : Int)] 3)) (.inl ⟨rfl, rfl⟩) (by simp) (by omega) (.inr ⟨w2.heap.size, 0, rfl, by simp, fun i hi => by
      have : i = 0 ∨ i = 1 ∨ i = 2 ∨ i = 3 ∨ i = 4 ∨ i = 5 ∨ i = 6 ∨ i = 7 ∨ i = 8 := by omega
      rcases this with rfl | rfl | rfl | rfl | rfl | rfl | rfl | rfl | rfl
      · exact R3.cell 0
      · exact R3.cell 1
      · exact R3.cell 2
      · exact R3.cell 3
      · exact R3.cell 4
      · exact R3.cell 5
      · exact R3.cell 6
      · exact R3.cell 7
      · exact R3.cell 8⟩) (fun i hi => (msgN_pos (unhide HOK) n hn4 i hi).2))
    have HB3 := hide b3
    clear b3 R3
    go_wp2_with fail
    generalize w2.alloc (.cells #[.int .i64 k, .int .i64 x0, .int .i64 x1, .int .i64 x2, .int .i64 x3, .int .i64 x4, .int .i64 x5, .int .i64 x6, .int .i64 (n : Int)] 3) = w3 at *
    refine Calls.mono (unhide HPT) ?_
    rintro e w4 ⟨v4, rfl, o4, b4⟩
    have HO4 := hide (Byt.of_own o4)
    have HB4 := hide ((unhide HB3).trans (b4.mono (unhide HB3).size))
    have HR4 := hide ((unhide HR2).below (unhide HB4) (unhide HR2).lt)
    have d8 : w4.cell? ⟨w.heap.size, 8, none⟩ = some (.slice a n c) := (unhide HR4).cell 8
    obtain ⟨HD, hHD⟩ : ∃ HD, putN [] (msgN k x0 x1 x2 x3 x4 x5 x6 n) 9 = HD := ⟨_, rfl⟩
    have HHL : Hid (HD.length = 72) := hide (by rw [← hHD, putN_len]; rfl)
    rw [hHD] at HO4
    have HHD := hide hHD
    clear o4 b4 HPT HB3 HR2 c0 c1 c2 c3 c4 c5 c6 c7 c8 hHD
    go_wp2_with fail
    clear d8
    go_loopw [5, 37] (fun v i wr => ∃ j : Nat, j ≤ n ∧ i = .int .i64 (j : Int) ∧ Hid (Byt wr v (HD ++ prts (l.take j))) ∧ Hid (Below w2.heap.size w2 wr)) (fun _ i _ => ((n : Int) - intOf i).toNat)
    case atStart => exact ⟨0, by omega, by simp, by simpa [prts] using HO4, HB4⟩
    case round =>
      obtain ⟨j, hj, rfl, HOW, HBW⟩ := hrel
      have HLJ : Hid ((HD ++ prts (l.take j)).length ≤ 20000) := hide (by rw [List.length_append, unhide HHL, prts_len, List.length_take]; have := sumS_take l j; have := (unhide HLF).2.2; omega)
      have HBX : Hid (Below w.heap.size w wr) := hide ((unhide HB2).trans ((unhide HBW).mono (unhide HB2).size))
      by_cases hlt : j < n
      · have kI : (j : Int) < (n : Int) := by omega
        obtain ⟨p, hpk⟩ : ∃ p, l[j]? = some p := ⟨_, List.getElem?_eq_getElem (by have := unhide HN; omega)⟩
        obtain ⟨b, off, rfl, e0, e1, e2⟩ := (unhide HP).at_ (unhide HBX) hpk
        have HST := hide (prts_take hpk)
        have HFS := hide (fits_size ((unhide HLF).2.1 p (List.mem_of_getElem? hpk)))
        have HSZ : Hid (p.text.size ≤ maxLen ∧ p.text.size ≤ 100000000) := hide (by
          have h1 : p.text.size ≤ sumS l := by
            have : sumS (l.take (j + 1)) = sumS (l.take j) + p.text.size := by unfold sumS; rw [List.take_add_one, hpk]; simp
            have := sumS_take l (j + 1)
            omega
          have := (unhide HLF).2.2
          unfold maxLen
          omega)
        have hbA : Below wr.heap.size wr (wr.alloc (.cells #[.int .i64 p.kind, .int .i64 p.n, .string p.text] 44)) := (Below.refl _ _).alloc (Nat.le_refl _) _
        have HRW := hide (RowAt.new wr 44 [.int .i64 p.kind, .int .i64 p.n, .string p.text])
        have HYL := hide ((unhide HOW).call hbA)
        have HBA := hide ((unhide HBW).trans (hbA.mono (unhide HBW).size))
        clear hpk hbA HOW
        obtain ⟨LJ, hLJ⟩ : ∃ LJ, HD ++ prts (l.take j) = LJ := ⟨_, rfl⟩
        have HLE : Hid (HD ++ prts (l.take (j + 1)) = LJ ++ prt p) := hide (by rw [unhide HST, ← hLJ, List.append_assoc])
        rw [hLJ] at HYL HLJ
        clear hLJ
        go_wp2_with fail
        obtain ⟨wA, hA⟩ : ∃ wA, wr.alloc (.cells #[.int .i64 p.kind, .int .i64 p.n, .string p.text] 44) = wA := ⟨_, rfl⟩
        rw [hA] at HRW HYL HBA ⊢
        clear hA e0 e1 e2 HBX HBW
        obtain ⟨gd, hgd⟩ : ∃ gd, wr.heap.size = gd := ⟨_, rfl⟩
        rw [hgd] at HRW ⊢
        clear hgd
        have HSS : Hid (∀ W, Below wA.heap.size wA W → W.cell? ⟨gd, 0, none⟩ = some (.int .i64 p.kind) ∧ W.cell? ⟨gd, 1, none⟩ = some (.int .i64 p.n) ∧ W.cell? ⟨gd, 2, none⟩ = some (.string p.text)) := hide (fun W hW => ⟨((unhide HRW).below hW (unhide HRW).lt).cell 0, ((unhide HRW).below hW (unhide HRW).lt).cell 1, ((unhide HRW).below hW (unhide HRW).lt).cell 2⟩)
        have HIN : Hid (∀ i, i < 2 → prN p i ≤ 9223372036854775807) := hide (fun i hi => by
          have h := unhide HFS
          have : i = 0 ∨ i = 1 := by omega
          rcases this with rfl | rfl
          · show p.kind ≤ _; omega
          · show p.n ≤ _; omega)
        refine Ed.wp_region_T (S := fun W => W.cell? ⟨gd, 0, none⟩ = some (.int .i64 p.kind) ∧ W.cell? ⟨gd, 1, none⟩ = some (.int .i64 p.n) ∧ W.cell? ⟨gd, 2, none⟩ = some (.string p.text)) (fun i => decide (i < 12)) (by kernel_rfl) (unhide HSS _ (Below.refl _ _).drew) (fun hHeld => ?_)
        obtain ⟨wd, hwd⟩ : ∃ z, wA.drew = z := ⟨_, rfl⟩
        have hbd : Below wA.heap.size wA wd := by rw [← hwd]; exact (Below.refl _ _).drew
        have HBwd := hide hbd
        rw [hwd] at hHeld ⊢
        clear hwd hbd
        refine Ed.wpAnyT_take (i := 0) (oi := { dst := some 41, op := Op.move (Operand.tmp 5), type := 30, pos := "ref.go:87", after := #[], guard := none }) (v := u5) rfl (by kernel_rfl) (by kernel_rfl) (by kernel_rfl) (by kernel_rfl) (fun _ _ _ h => h) (Or.inl ⟨by rfl, ?_⟩) hHeld ?_
        · intro w hSw
          obtain ⟨s0, s1, s2⟩ := hSw
          first
            | rfl
            | (go_simp; done)
        try simp only [Act.put, List.setIfInBounds_toArray, List.set_cons_zero, List.set_cons_succ]
        refine Ed.wpAnyT_take (i := 1) (oi := { dst := some 42, op := Op.fieldAddr 44 (Operand.tmp 7) 0, type := 0, pos := "ref.go:87", after := #[], guard := none }) (v := .pointer (some ⟨gd, 0, none⟩)) rfl (by kernel_rfl) (by kernel_rfl) (by kernel_rfl) (by kernel_rfl) (fun _ _ _ h => h) (Or.inl ⟨by rfl, ?_⟩) hHeld ?_
        · intro w hSw
          obtain ⟨s0, s1, s2⟩ := hSw
          first
            | rfl
            | (go_simp; done)
        try simp only [Act.put, List.setIfInBounds_toArray, List.set_cons_zero, List.set_cons_succ]
        refine Ed.wpAnyT_take (i := 2) (oi := { dst := some 43, op := Op.load 3 (Operand.tmp 42), type := 3, pos := "ref.go:87", after := #[{ on := 1, ground := Ground.data }], guard := none }) (v := .int .i64 p.kind) rfl (by kernel_rfl) (by kernel_rfl) (by kernel_rfl) (by kernel_rfl) (fun _ _ _ h => h) (Or.inl ⟨by rfl, ?_⟩) hHeld ?_
        · intro w hSw
          obtain ⟨s0, s1, s2⟩ := hSw
          first
            | rfl
            | (go_simp; done)
        try simp only [Act.put, List.setIfInBounds_toArray, List.set_cons_zero, List.set_cons_succ]
        refine Ed.wpAnyT_take (i := 3) (oi := { dst := some 44, op := Op.fieldAddr 44 (Operand.tmp 7) 1, type := 0, pos := "ref.go:87", after := #[], guard := none }) (v := .pointer (some ⟨gd, 1, none⟩)) rfl (by kernel_rfl) (by kernel_rfl) (by kernel_rfl) (by kernel_rfl) (fun _ _ _ h => h) (Or.inl ⟨by rfl, ?_⟩) hHeld ?_
        · intro w hSw
          obtain ⟨s0, s1, s2⟩ := hSw
          first
            | rfl
            | (go_simp; done)
        try simp only [Act.put, List.setIfInBounds_toArray, List.set_cons_zero, List.set_cons_succ]
        refine Ed.wpAnyT_take (i := 4) (oi := { dst := some 45, op := Op.load 3 (Operand.tmp 44), type := 3, pos := "ref.go:87", after := #[{ on := 3, ground := Ground.data }], guard := none }) (v := .int .i64 p.n) rfl (by kernel_rfl) (by kernel_rfl) (by kernel_rfl) (by kernel_rfl) (fun _ _ _ h => h) (Or.inl ⟨by rfl, ?_⟩) hHeld ?_
        · intro w hSw
          obtain ⟨s0, s1, s2⟩ := hSw
          first
            | rfl
            | (go_simp; done)
        try simp only [Act.put, List.setIfInBounds_toArray, List.set_cons_zero, List.set_cons_succ]
        refine Ed.wpAnyT_take (i := 7) (oi := { dst := some 48, op := Op.fieldAddr 44 (Operand.tmp 7) 2, type := 0, pos := "ref.go:87", after := #[], guard := none }) (v := .pointer (some ⟨gd, 2, none⟩)) rfl (by kernel_rfl) (by kernel_rfl) (by kernel_rfl) (by kernel_rfl) (fun _ _ _ h => h) (Or.inl ⟨by rfl, ?_⟩) hHeld ?_
        · intro w hSw
          obtain ⟨s0, s1, s2⟩ := hSw
          first
            | rfl
            | (go_simp; done)
        try simp only [Act.put, List.setIfInBounds_toArray, List.set_cons_zero, List.set_cons_succ]
        refine Ed.wpAnyT_take (i := 8) (oi := { dst := some 49, op := Op.load 9 (Operand.tmp 48), type := 9, pos := "ref.go:87", after := #[{ on := 7, ground := Ground.data }], guard := none }) (v := .string p.text) rfl (by kernel_rfl) (by kernel_rfl) (by kernel_rfl) (by kernel_rfl) (fun _ _ _ h => h) (Or.inl ⟨by rfl, ?_⟩) hHeld ?_
        · intro w hSw
          obtain ⟨s0, s1, s2⟩ := hSw
          first
            | rfl
            | (go_simp; done)
        try simp only [Act.put, List.setIfInBounds_toArray, List.set_cons_zero, List.set_cons_succ]
        refine wpAnyT_two (i := 5) (j := 9) (o := { dst := some 46, op := Op.buildSlice 53 2 #[(0, Operand.tmp 43), (1, Operand.tmp 45)], type := 53, pos := "ref.go:87", after := #[{ on := 2, ground := Ground.data }, { on := 4, ground := Ground.data }], guard := none }) (o' := { dst := some 50, op := Op.convert 9 30 (Operand.tmp 49), type := 30, pos := "ref.go:87", after := #[{ on := 8, ground := Ground.data }], guard := none }) (by kernel_rfl) rfl rfl (fun K hK => ?_) (fun K hK => ?_)
        · go_simp
          have hbx : Below wd.heap.size wd (wd.alloc (.cells #[.int .i64 p.kind, .int .i64 p.n] 3)) := (Below.refl _ _).alloc (Nat.le_refl _) _
          have HRwp5wd := hide (RowAt.new wd 3 [.int .i64 p.kind, .int .i64 p.n])
          have HBwp5wd := hide ((unhide HBwd).trans (hbx.mono (unhide HBwd).size))
          clear hbx
          obtain ⟨wp5wd, hz⟩ : ∃ z, wd.alloc (.cells #[.int .i64 p.kind, .int .i64 p.n] 3) = z := ⟨_, rfl⟩
          obtain ⟨gE, hgE⟩ : ∃ z, wd.heap.size = z := ⟨_, rfl⟩
          rw [hz] at HRwp5wd HBwp5wd ⊢
          rw [hgE] at HRwp5wd ⊢
          clear hz hgE
          refine hK.out _ _ (fun _ => unhide HSS _ (unhide HBwp5wd)) ?_
          clear hK K
          try simp only [Act.put, List.setIfInBounds_toArray, List.set_cons_zero, List.set_cons_succ]
          refine wpAnyT_two (i := 6) (j := 9) (o := { dst := some 47, op := Op.call { callee := Callee.value (Operand.func 34), args := #[Operand.tmp 41, Operand.tmp 46], argTypes := #[30, 53] }, type := 30, pos := "ref.go:87", after := #[{ on := 0, ground := Ground.data }, { on := 5, ground := Ground.data }], guard := none }) (o' := { dst := some 50, op := Op.convert 9 30 (Operand.tmp 49), type := 30, pos := "ref.go:87", after := #[{ on := 8, ground := Ground.data }], guard := none }) (by kernel_rfl) rfl rfl (fun K hK => ?_) (fun K hK => ?_)
          · go_simp
            refine Calls.mono (refputm_any u5 LJ (some ⟨gE, 0, none⟩) 2 2 (prN p) wp5wd ((unhide HYL).call (unhide HBwp5wd)) (by have := unhide HLJ; omega) (by omega) (.inr ⟨gE, 0, rfl, (unhide HRwp5wd).lt, fun i hi => by
              have : i = 0 ∨ i = 1 := by omega
              rcases this with rfl | rfl
              · exact (unhide HRwp5wd).cell 0
              · exact (unhide HRwp5wd).cell 1⟩) (unhide HIN)) ?_
            rintro e wp6wp5wd ⟨v6, rfl, o6, b6⟩
            have H6wp6wp5wd := hide (Byt.of_own o6)
            have HBwp6wp5wd := hide ((unhide HBwp5wd).trans (b6.mono (unhide HBwp5wd).size))
            clear o6 b6
            go_wp2_with fail
            refine hK.out _ _ (fun _ => unhide HSS _ (unhide HBwp6wp5wd)) ?_
            clear hK K
            try simp only [Act.put, List.setIfInBounds_toArray, List.set_cons_zero, List.set_cons_succ]
            refine Ed.wpAnyT_one (i := 9) (o := { dst := some 50, op := Op.convert 9 30 (Operand.tmp 49), type := 30, pos := "ref.go:87", after := #[{ on := 8, ground := Ground.data }], guard := none }) (by kernel_rfl) rfl (fun K hK => ?_)
            have hcv := Lib.run_convert_string_bytes (P := Tryd.prog) wp6wp5wd 9 30 5 p.text Tryd.underlying9 Tryd.underlying30 Tryd.underlying5
            have H9wy9 := hide (sb_byt wp6wp5wd p.text (unhide HSZ).1)
            have hbx := sb_below wp6wp5wd p.text
            have H6wy9 := hide ((unhide H6wp6wp5wd).call hbx)
            have HBwy9 := hide ((unhide HBwp6wp5wd).trans (hbx.mono (unhide HBwp6wp5wd).size))
            clear hbx
            obtain ⟨cS, hcS⟩ : ∃ z, grownCap wp6wp5wd p.text.size 0 5 = z := ⟨_, rfl⟩
            obtain ⟨wy9, hz⟩ : ∃ z, Lib.bytesWorld wp6wp5wd 5 p.text = z := ⟨_, rfl⟩
            obtain ⟨gS, hgS⟩ : ∃ z, wp6wp5wd.heap.size = z := ⟨_, rfl⟩
            rw [hcS] at hcv H9wy9
            rw [hz] at hcv H9wy9 H6wy9 HBwy9
            rw [hgS] at hcv H9wy9
            clear hcS hz hgS
            go_wp2_with fail
            refine hK.out _ _ (fun _ => unhide HSS _ (unhide HBwy9)) ?_
            clear hK K
            clear hcv
            try simp only [Act.put, List.setIfInBounds_toArray, List.set_cons_zero, List.set_cons_succ]
            refine Ed.wpAnyT_one (i := 10) (o := { dst := some 51, op := Op.call { callee := Callee.value (Operand.func 35), args := #[Operand.tmp 47, Operand.tmp 50], argTypes := #[30, 30] }, type := 30, pos := "ref.go:87", after := #[{ on := 6, ground := Ground.data }, { on := 9, ground := Ground.data }, { on := 6, ground := Ground.chain }], guard := none }) (by kernel_rfl) rfl (fun K hK => ?_)
            go_simp
            refine Calls.mono (rputbytes_any v6 (.slice (some ⟨gS, 0, none⟩) p.text.size cS) (putN LJ (prN p) 2) (txt p.text) wy9 (unhide H6wy9) (unhide H9wy9) (by rw [putN_len]; have := unhide HLJ; omega) (by rw [txt_len]; exact (unhide HSZ).2)) ?_
            rintro e wz ⟨vz, rfl, oz, bz⟩
            have HYZ : Hid (Byt wz vz (LJ ++ prt p)) := hide (by have h := Byt.of_own oz; rw [prt_app] at h; exact h)
            have HBwz := hide ((unhide HBwy9).trans (bz.mono (unhide HBwy9).size))
            clear oz bz
            go_wp2_with fail
            refine hK.out _ _ (fun _ => unhide HSS _ (unhide HBwz)) ?_
            clear hK K
            try simp only [Act.put, List.setIfInBounds_toArray, List.set_cons_zero, List.set_cons_succ]
            refine Ed.wpAnyT_take (i := 11) (oi := { dst := some 5, op := Op.assign (Operand.tmp 51), type := 30, pos := "ref.go:87", after := #[{ on := 10, ground := Ground.data }, { on := 10, ground := Ground.chain }, { on := 0, ground := Ground.phase }, { on := 1, ground := Ground.phase }, { on := 2, ground := Ground.phase }, { on := 3, ground := Ground.phase }, { on := 4, ground := Ground.phase }, { on := 5, ground := Ground.phase }, { on := 6, ground := Ground.phase }, { on := 7, ground := Ground.phase }, { on := 8, ground := Ground.phase }, { on := 9, ground := Ground.phase }, { on := 10, ground := Ground.phase }], guard := none }) (v := vz) rfl (by kernel_rfl) (by kernel_rfl) (by kernel_rfl) (by kernel_rfl) (fun _ _ _ h => h) (Or.inl ⟨by rfl, ?_⟩) (unhide HSS _ (unhide HBwz)) ?_
            · intro w hSw
              obtain ⟨s0, s1, s2⟩ := hSw
              first
                | rfl
                | (go_simp; done)
            try simp only [Act.put, List.setIfInBounds_toArray, List.set_cons_zero, List.set_cons_succ]
            refine Ed.wpAnyT_done (by kernel_rfl) ?_ _
            go_wp2_with fail
            exact ⟨⟨j + 1, by omega, by simp, by rw [unhide HLE]; exact HYZ, hide ((unhide HBA).trans ((unhide HBwz).mono (unhide HBA).size))⟩, by simp [intOf]; omega⟩
          · have hcv := Lib.run_convert_string_bytes (P := Tryd.prog) wp5wd 9 30 5 p.text Tryd.underlying9 Tryd.underlying30 Tryd.underlying5
            have H9wp9wp5wd := hide (sb_byt wp5wd p.text (unhide HSZ).1)
            have hbx := sb_below wp5wd p.text
            have HRwp9wp5wd := hide ((unhide HRwp5wd).below hbx (unhide HRwp5wd).lt)
            have HBwp9wp5wd := hide ((unhide HBwp5wd).trans (hbx.mono (unhide HBwp5wd).size))
            clear hbx
            obtain ⟨cS, hcS⟩ : ∃ z, grownCap wp5wd p.text.size 0 5 = z := ⟨_, rfl⟩
            obtain ⟨wp9wp5wd, hz⟩ : ∃ z, Lib.bytesWorld wp5wd 5 p.text = z := ⟨_, rfl⟩
            obtain ⟨gS, hgS⟩ : ∃ z, wp5wd.heap.size = z := ⟨_, rfl⟩
            rw [hcS] at hcv H9wp9wp5wd
            rw [hz] at hcv H9wp9wp5wd HRwp9wp5wd HBwp9wp5wd
            rw [hgS] at hcv H9wp9wp5wd
            clear hcS hz hgS
            go_wp2_with fail
            refine hK.out _ _ (fun _ => unhide HSS _ (unhide HBwp9wp5wd)) ?_
            clear hK K
            clear hcv
            try simp only [Act.put, List.setIfInBounds_toArray, List.set_cons_zero, List.set_cons_succ]
            refine Ed.wpAnyT_one (i := 6) (o := { dst := some 47, op := Op.call { callee := Callee.value (Operand.func 34), args := #[Operand.tmp 41, Operand.tmp 46], argTypes := #[30, 53] }, type := 30, pos := "ref.go:87", after := #[{ on := 0, ground := Ground.data }, { on := 5, ground := Ground.data }], guard := none }) (by kernel_rfl) rfl (fun K hK => ?_)
            go_simp
            refine Calls.mono (refputm_any u5 LJ (some ⟨gE, 0, none⟩) 2 2 (prN p) wp9wp5wd ((unhide HYL).call (unhide HBwp9wp5wd)) (by have := unhide HLJ; omega) (by omega) (.inr ⟨gE, 0, rfl, (unhide HRwp9wp5wd).lt, fun i hi => by
              have : i = 0 ∨ i = 1 := by omega
              rcases this with rfl | rfl
              · exact (unhide HRwp9wp5wd).cell 0
              · exact (unhide HRwp9wp5wd).cell 1⟩) (unhide HIN)) ?_
            rintro e wy6 ⟨v6, rfl, o6, b6⟩
            have H6wy6 := hide (Byt.of_own o6)
            have H9wy6 := hide ((unhide H9wp9wp5wd).call b6)
            have HBwy6 := hide ((unhide HBwp9wp5wd).trans (b6.mono (unhide HBwp9wp5wd).size))
            clear o6 b6
            go_wp2_with fail
            refine hK.out _ _ (fun _ => unhide HSS _ (unhide HBwy6)) ?_
            clear hK K
            try simp only [Act.put, List.setIfInBounds_toArray, List.set_cons_zero, List.set_cons_succ]
            refine Ed.wpAnyT_one (i := 10) (o := { dst := some 51, op := Op.call { callee := Callee.value (Operand.func 35), args := #[Operand.tmp 47, Operand.tmp 50], argTypes := #[30, 30] }, type := 30, pos := "ref.go:87", after := #[{ on := 6, ground := Ground.data }, { on := 9, ground := Ground.data }, { on := 6, ground := Ground.chain }], guard := none }) (by kernel_rfl) rfl (fun K hK => ?_)
            go_simp
            refine Calls.mono (rputbytes_any v6 (.slice (some ⟨gS, 0, none⟩) p.text.size cS) (putN LJ (prN p) 2) (txt p.text) wy6 (unhide H6wy6) (unhide H9wy6) (by rw [putN_len]; have := unhide HLJ; omega) (by rw [txt_len]; exact (unhide HSZ).2)) ?_
            rintro e wz ⟨vz, rfl, oz, bz⟩
            have HYZ : Hid (Byt wz vz (LJ ++ prt p)) := hide (by have h := Byt.of_own oz; rw [prt_app] at h; exact h)
            have HBwz := hide ((unhide HBwy6).trans (bz.mono (unhide HBwy6).size))
            clear oz bz
            go_wp2_with fail
            refine hK.out _ _ (fun _ => unhide HSS _ (unhide HBwz)) ?_
            clear hK K
            try simp only [Act.put, List.setIfInBounds_toArray, List.set_cons_zero, List.set_cons_succ]
            refine Ed.wpAnyT_take (i := 11) (oi := { dst := some 5, op := Op.assign (Operand.tmp 51), type := 30, pos := "ref.go:87", after := #[{ on := 10, ground := Ground.data }, { on := 10, ground := Ground.chain }, { on := 0, ground := Ground.phase }, { on := 1, ground := Ground.phase }, { on := 2, ground := Ground.phase }, { on := 3, ground := Ground.phase }, { on := 4, ground := Ground.phase }, { on := 5, ground := Ground.phase }, { on := 6, ground := Ground.phase }, { on := 7, ground := Ground.phase }, { on := 8, ground := Ground.phase }, { on := 9, ground := Ground.phase }, { on := 10, ground := Ground.phase }], guard := none }) (v := vz) rfl (by kernel_rfl) (by kernel_rfl) (by kernel_rfl) (by kernel_rfl) (fun _ _ _ h => h) (Or.inl ⟨by rfl, ?_⟩) (unhide HSS _ (unhide HBwz)) ?_
            · intro w hSw
              obtain ⟨s0, s1, s2⟩ := hSw
              first
                | rfl
                | (go_simp; done)
            try simp only [Act.put, List.setIfInBounds_toArray, List.set_cons_zero, List.set_cons_succ]
            refine Ed.wpAnyT_done (by kernel_rfl) ?_ _
            go_wp2_with fail
            exact ⟨⟨j + 1, by omega, by simp, by rw [unhide HLE]; exact HYZ, hide ((unhide HBA).trans ((unhide HBwz).mono (unhide HBA).size))⟩, by simp [intOf]; omega⟩
        · have hcv := Lib.run_convert_string_bytes (P := Tryd.prog) wd 9 30 5 p.text Tryd.underlying9 Tryd.underlying30 Tryd.underlying5
          have H9wp9wd := hide (sb_byt wd p.text (unhide HSZ).1)
          have hbx := sb_below wd p.text
          have HBwp9wd := hide ((unhide HBwd).trans (hbx.mono (unhide HBwd).size))
          clear hbx
          obtain ⟨cS, hcS⟩ : ∃ z, grownCap wd p.text.size 0 5 = z := ⟨_, rfl⟩
          obtain ⟨wp9wd, hz⟩ : ∃ z, Lib.bytesWorld wd 5 p.text = z := ⟨_, rfl⟩
          obtain ⟨gS, hgS⟩ : ∃ z, wd.heap.size = z := ⟨_, rfl⟩
          rw [hcS] at hcv H9wp9wd
          rw [hz] at hcv H9wp9wd  HBwp9wd
          rw [hgS] at hcv H9wp9wd
          clear hcS hz hgS
          go_wp2_with fail
          refine hK.out _ _ (fun _ => unhide HSS _ (unhide HBwp9wd)) ?_
          clear hK K
          clear hcv
          try simp only [Act.put, List.setIfInBounds_toArray, List.set_cons_zero, List.set_cons_succ]
          refine Ed.wpAnyT_one (i := 5) (o := { dst := some 46, op := Op.buildSlice 53 2 #[(0, Operand.tmp 43), (1, Operand.tmp 45)], type := 53, pos := "ref.go:87", after := #[{ on := 2, ground := Ground.data }, { on := 4, ground := Ground.data }], guard := none }) (by kernel_rfl) rfl (fun K hK => ?_)
          go_simp
          have hbx : Below wp9wd.heap.size wp9wd (wp9wd.alloc (.cells #[.int .i64 p.kind, .int .i64 p.n] 3)) := (Below.refl _ _).alloc (Nat.le_refl _) _
          have HRwx5 := hide (RowAt.new wp9wd 3 [.int .i64 p.kind, .int .i64 p.n])
          have H9wx5 := hide ((unhide H9wp9wd).call hbx)
          have HBwx5 := hide ((unhide HBwp9wd).trans (hbx.mono (unhide HBwp9wd).size))
          clear hbx
          obtain ⟨wx5, hz⟩ : ∃ z, wp9wd.alloc (.cells #[.int .i64 p.kind, .int .i64 p.n] 3) = z := ⟨_, rfl⟩
          obtain ⟨gE, hgE⟩ : ∃ z, wp9wd.heap.size = z := ⟨_, rfl⟩
          rw [hz] at HRwx5 H9wx5 HBwx5 ⊢
          rw [hgE] at HRwx5 ⊢
          clear hz hgE
          refine hK.out _ _ (fun _ => unhide HSS _ (unhide HBwx5)) ?_
          clear hK K
          try simp only [Act.put, List.setIfInBounds_toArray, List.set_cons_zero, List.set_cons_succ]
          refine Ed.wpAnyT_one (i := 6) (o := { dst := some 47, op := Op.call { callee := Callee.value (Operand.func 34), args := #[Operand.tmp 41, Operand.tmp 46], argTypes := #[30, 53] }, type := 30, pos := "ref.go:87", after := #[{ on := 0, ground := Ground.data }, { on := 5, ground := Ground.data }], guard := none }) (by kernel_rfl) rfl (fun K hK => ?_)
          go_simp
          refine Calls.mono (refputm_any u5 LJ (some ⟨gE, 0, none⟩) 2 2 (prN p) wx5 ((unhide HYL).call (unhide HBwx5)) (by have := unhide HLJ; omega) (by omega) (.inr ⟨gE, 0, rfl, (unhide HRwx5).lt, fun i hi => by
            have : i = 0 ∨ i = 1 := by omega
            rcases this with rfl | rfl
            · exact (unhide HRwx5).cell 0
            · exact (unhide HRwx5).cell 1⟩) (unhide HIN)) ?_
          rintro e wx6 ⟨v6, rfl, o6, b6⟩
          have H6wx6 := hide (Byt.of_own o6)
          have H9wx6 := hide ((unhide H9wx5).call b6)
          have HBwx6 := hide ((unhide HBwx5).trans (b6.mono (unhide HBwx5).size))
          clear o6 b6
          go_wp2_with fail
          refine hK.out _ _ (fun _ => unhide HSS _ (unhide HBwx6)) ?_
          clear hK K
          try simp only [Act.put, List.setIfInBounds_toArray, List.set_cons_zero, List.set_cons_succ]
          refine Ed.wpAnyT_one (i := 10) (o := { dst := some 51, op := Op.call { callee := Callee.value (Operand.func 35), args := #[Operand.tmp 47, Operand.tmp 50], argTypes := #[30, 30] }, type := 30, pos := "ref.go:87", after := #[{ on := 6, ground := Ground.data }, { on := 9, ground := Ground.data }, { on := 6, ground := Ground.chain }], guard := none }) (by kernel_rfl) rfl (fun K hK => ?_)
          go_simp
          refine Calls.mono (rputbytes_any v6 (.slice (some ⟨gS, 0, none⟩) p.text.size cS) (putN LJ (prN p) 2) (txt p.text) wx6 (unhide H6wx6) (unhide H9wx6) (by rw [putN_len]; have := unhide HLJ; omega) (by rw [txt_len]; exact (unhide HSZ).2)) ?_
          rintro e wz ⟨vz, rfl, oz, bz⟩
          have HYZ : Hid (Byt wz vz (LJ ++ prt p)) := hide (by have h := Byt.of_own oz; rw [prt_app] at h; exact h)
          have HBwz := hide ((unhide HBwx6).trans (bz.mono (unhide HBwx6).size))
          clear oz bz
          go_wp2_with fail
          refine hK.out _ _ (fun _ => unhide HSS _ (unhide HBwz)) ?_
          clear hK K
          try simp only [Act.put, List.setIfInBounds_toArray, List.set_cons_zero, List.set_cons_succ]
          refine Ed.wpAnyT_take (i := 11) (oi := { dst := some 5, op := Op.assign (Operand.tmp 51), type := 30, pos := "ref.go:87", after := #[{ on := 10, ground := Ground.data }, { on := 10, ground := Ground.chain }, { on := 0, ground := Ground.phase }, { on := 1, ground := Ground.phase }, { on := 2, ground := Ground.phase }, { on := 3, ground := Ground.phase }, { on := 4, ground := Ground.phase }, { on := 5, ground := Ground.phase }, { on := 6, ground := Ground.phase }, { on := 7, ground := Ground.phase }, { on := 8, ground := Ground.phase }, { on := 9, ground := Ground.phase }, { on := 10, ground := Ground.phase }], guard := none }) (v := vz) rfl (by kernel_rfl) (by kernel_rfl) (by kernel_rfl) (by kernel_rfl) (fun _ _ _ h => h) (Or.inl ⟨by rfl, ?_⟩) (unhide HSS _ (unhide HBwz)) ?_
          · intro w hSw
            obtain ⟨s0, s1, s2⟩ := hSw
            first
              | rfl
              | (go_simp; done)
          try simp only [Act.put, List.setIfInBounds_toArray, List.set_cons_zero, List.set_cons_succ]
          refine Ed.wpAnyT_done (by kernel_rfl) ?_ _
          go_wp2_with fail
          exact ⟨⟨j + 1, by omega, by simp, by rw [unhide HLE]; exact HYZ, hide ((unhide HBA).trans ((unhide HBwz).mono (unhide HBA).size))⟩, by simp [intOf]; omega⟩
      · obtain rfl : n = j := by omega
        have kI : ¬ (n : Int) < (n : Int) := by omega
        have HO9 : Hid (Byt wr u5 (msgL k x0 x1 x2 x3 x4 x5 x6 l)) := hide (by
          have h := unhide HOW
          rw [List.take_of_length_le (by rw [unhide HN]; exact Nat.le_refl _)] at h
          rw [msgL, unhide HN, unhide HHD]; exact h)
        have HOK2 := HOK
        go_wp2_with fail
        go_ret2
        exact ⟨unhide HBX, fun _ => ⟨_, rfl, unhide HO9⟩, fun h => absurd (unhide HOK2) h⟩
  · have HNO : Hid (¬ MsgOk k (nsF x0 x1 x2 x3 x4 x5 x6) l) := hide (fun h => by have := (unhide HIF).2 h; omega)
    go_wp2_with fail
    go_ret2
    exact ⟨unhide HB2, fun h => absurd h (unhide HNO), fun _ => rfl⟩
end Go.Proofs.YtbnfilhilgjnfaaDoor
