/- The message that any bytes are, beside the document's: the law's walk. -/
import Derived.Test.YtbnfilhilgjnfaaDoorGRg
import Derived.Test.YtbnfilhilgjnfaaDoorGBck
import Derived.Test.YtbnfilhilgjnfaaDoorGOpn
namespace Go.Proofs.YtbnfilhilgjnfaaDoor
set_option linter.unusedVariables false
set_option linter.unusedSimpArgs false
set_option maxRecDepth 100000
open Go.ChangeShapes Go.WideShapes Go.ChangeAt Go.RowKit Go.Joins

def GotV (x0 x1 x2 x3 x4 x5 x6 x7 : Int) (q : List Ed.Pt) (z : Int) (w : World) (r : Ending) (w' : World) : Prop := Below w.heap.size w w' ∧ ∃ a c, r = .returned (.tuple #[msgV x0 x1 x2 x3 x4 x5 x6 x7 (.slice a q.length c), .int .i64 z]) ∧ Ed.PtsAt w' a q
theorem got_of (l : List Nat) : ∃ (x0 x1 x2 x3 x4 x5 x6 x7 : Int) (q : List Ed.Pt) (z : Int), q.length ≤ 500 ∧ ∀ w r w', GtR l w r w' → GotV x0 x1 x2 x3 x4 x5 x6 x7 q z w r w' := by
  by_cases h : GetOk l
  · refine ⟨nVal l 0, nVal l 1, nVal l 2, nVal l 3, nVal l 4, nVal l 5, nVal l 6, nVal l 7, gEd l, 0, by have := gEd_len l; omega, fun w r w' hg => ?_⟩
    obtain ⟨b, h1, _⟩ := hg
    exact ⟨b, h1 h⟩
  · refine ⟨0, 0, 0, 0, 0, 0, 0, 0, [], 120, by simp, fun w r w' hg => ?_⟩
    obtain ⟨b, _, h2⟩ := hg
    exact ⟨b, none, 0, h2 h, .inl rfl⟩
set_option maxHeartbeats 8000000 in
theorem gets_law (v : Value) (l : List Nat) (w : World) (hT : GLay w) (hv : Byt w v l) (h8 : U8 l) :
    Calls Tryd.prog 5 #[v] w fun e w' => e = .returned (.bool true) ∧ Below w.heap.size w w' := by
  have HAW : Hid (∀ w1, Below w.heap.size w w1 → Calls Tryd.prog 9 #[] w1 fun e w' => e = .returned (.bool true) ∧ Below w1.heap.size w1 w') := hide (fun w1 hb => fawake_any w1 (hT.below hb).1)
  have HV := hide hv
  have HT := hide hT
  have H8 := hide h8
  obtain ⟨a, cap, rfl⟩ := byt_shape hv
  obtain ⟨n, hn⟩ : ∃ n, l.length = n := ⟨_, rfl⟩
  rw [hn] at HV ⊢
  have HN := hide hn
  clear hv hT h8 hn
  by_cases hbig : 16384 < n
  · have hI : (16384 : Int) < (n : Int) := by omega
    go_enter Tryd.func5, Tryd.ntmps5
    go_wp2_with fail
    refine Calls.mono (unhide HAW w (Below.refl _ _)) ?_
    rintro e w1 ⟨rfl, b1⟩
    go_wp2_with fail
    go_ret
    exact ⟨rfl, b1⟩
  have hI : ¬ (16384 : Int) < (n : Int) := by omega
  have HCL := hide (clone_any _ l w (unhide HV) (by rw [unhide HN]; omega))
  rw [unhide HN] at HCL
  go_enter Tryd.func5, Tryd.ntmps5
  go_wp2_with fail
  refine Calls.mono (unhide HCL) ?_
  rintro e w1 ⟨vc, rfl, o1, b1⟩
  have y1 := Byt.of_own (own_cast o1 (unhide HN).symm rfl)
  obtain ⟨ac, cc, hvc⟩ := byt_shape y1
  rw [unhide HN] at hvc
  subst hvc
  have HY1 := hide y1
  have HB1 := hide b1
  clear o1 b1 y1 HCL
  have HG1 := hide (get_any _ l w1 ((unhide HT).below (unhide HB1)) (unhide HY1) (unhide H8) (by rw [unhide HN]; omega))
  obtain ⟨x0, x1, x2, x3, x4, x5, x6, x7, q, z, hq5, hgot⟩ := got_of l
  have HGV := hide hgot
  obtain ⟨n1, hn1⟩ : ∃ n1, q.length = n1 := ⟨_, rfl⟩
  rw [hn1] at hq5
  have HN1 := hide hn1
  clear hgot hn1
  go_wp2_with fail
  refine Calls.mono (unhide HG1) ?_
  intro e w2 h2
  obtain ⟨b2, a1, c1, rfl, p2⟩ := unhide HGV _ _ _ h2
  rw [unhide HN1]
  unfold msgV
  have HB2 := hide ((unhide HB1).trans (b2.mono (unhide HB1).size))
  have HY2 := hide ((unhide HY1).call b2)
  have b3 : Below w2.heap.size w2 (w2.alloc (.cells #[.int .i64 x0, .int .i64 x1, .int .i64 x2, .int .i64 x3, .int .i64 x4, .int .i64 x5, .int .i64 x6, .int .i64 x7, .slice a1 n1 c1] 25)) := (Below.refl _ _).alloc (Nat.le_refl _) _
  have HR3 := hide (RowAt.new w2 25 [.int .i64 x0, .int .i64 x1, .int .i64 x2, .int .i64 x3, .int .i64 x4, .int .i64 x5, .int .i64 x6, .int .i64 x7, .slice a1 n1 c1])
  have HP3 := hide (p2.call b3)
  have HB3 := hide ((unhide HB2).trans (b3.mono (unhide HB2).size))
  have HY3 := hide ((unhide HY2).call b3)
  clear h2 b2 p2 b3 HB1 HY1 HB2 HY2 HG1
  go_wp2_with fail
  obtain ⟨g1, hg1⟩ : ∃ z, w2.heap.size = z := ⟨_, rfl⟩
  rw [hg1] at HR3
  try rw [hg1]
  generalize w2.alloc (.cells #[.int .i64 x0, .int .i64 x1, .int .i64 x2, .int .i64 x3, .int .i64 x4, .int .i64 x5, .int .i64 x6, .int .i64 x7, .slice a1 n1 c1] 25) = w3 at *
  clear hg1
  have HG3 := hide (rget_any _ l w3 ((unhide HV).call (unhide HB3)) (unhide H8) (by rw [unhide HN]; omega))
  try rw [unhide HN] at HG3
  refine Calls.mono (unhide HG3) ?_
  intro e w4 h4
  obtain ⟨b4, a2, c2, rfl, p4⟩ := unhide HGV _ _ _ (show GtR l w3 e w4 from h4)
  rw [unhide HN1]
  unfold msgV
  have HB4 := hide ((unhide HB3).trans (b4.mono (unhide HB3).size))
  have HY4 := hide ((unhide HY3).call b4)
  have HR4 := hide ((unhide HR3).below b4 (unhide HR3).lt)
  have HP4 := hide ((unhide HP3).call b4)
  have b5 : Below w4.heap.size w4 (w4.alloc (.cells #[.int .i64 x0, .int .i64 x1, .int .i64 x2, .int .i64 x3, .int .i64 x4, .int .i64 x5, .int .i64 x6, .int .i64 x7, .slice a2 n1 c2] 25)) := (Below.refl _ _).alloc (Nat.le_refl _) _
  have HD5 := hide (RowAt.new w4 25 [.int .i64 x0, .int .i64 x1, .int .i64 x2, .int .i64 x3, .int .i64 x4, .int .i64 x5, .int .i64 x6, .int .i64 x7, .slice a2 n1 c2])
  have HR5 := hide ((unhide HR4).below b5 (unhide HR4).lt)
  have HQ5 := hide (p4.call b5)
  have HP5 := hide ((unhide HP4).call b5)
  have HB5 := hide ((unhide HB4).trans (b5.mono (unhide HB4).size))
  have HY5 := hide ((unhide HY4).call b5)
  clear h4 b4 p4 b5 HB3 HY3 HB4 HY4 HG3 HR3 HR4 HP3 HP4
  have HSA := hide (same_any x0 x1 x2 x3 x4 x5 x6 x7 a1 a2 q n1 c1 c2 (w4.alloc (.cells #[.int .i64 x0, .int .i64 x1, .int .i64 x2, .int .i64 x3, .int .i64 x4, .int .i64 x5, .int .i64 x6, .int .i64 x7, .slice a2 n1 c2] 25)) (unhide HP5) (unhide HQ5) (unhide HN1) (by unfold maxLen; omega))
  unfold msgV at HSA
  have r0 : (w4.alloc (.cells #[.int .i64 x0, .int .i64 x1, .int .i64 x2, .int .i64 x3, .int .i64 x4, .int .i64 x5, .int .i64 x6, .int .i64 x7, .slice a2 n1 c2] 25)).cell? ⟨g1, 0, none⟩ = some (.int .i64 x0) := (unhide HR5).cell 0
  have r1 : (w4.alloc (.cells #[.int .i64 x0, .int .i64 x1, .int .i64 x2, .int .i64 x3, .int .i64 x4, .int .i64 x5, .int .i64 x6, .int .i64 x7, .slice a2 n1 c2] 25)).cell? ⟨g1, 1, none⟩ = some (.int .i64 x1) := (unhide HR5).cell 1
  have r2 : (w4.alloc (.cells #[.int .i64 x0, .int .i64 x1, .int .i64 x2, .int .i64 x3, .int .i64 x4, .int .i64 x5, .int .i64 x6, .int .i64 x7, .slice a2 n1 c2] 25)).cell? ⟨g1, 2, none⟩ = some (.int .i64 x2) := (unhide HR5).cell 2
  have r3 : (w4.alloc (.cells #[.int .i64 x0, .int .i64 x1, .int .i64 x2, .int .i64 x3, .int .i64 x4, .int .i64 x5, .int .i64 x6, .int .i64 x7, .slice a2 n1 c2] 25)).cell? ⟨g1, 3, none⟩ = some (.int .i64 x3) := (unhide HR5).cell 3
  have r4 : (w4.alloc (.cells #[.int .i64 x0, .int .i64 x1, .int .i64 x2, .int .i64 x3, .int .i64 x4, .int .i64 x5, .int .i64 x6, .int .i64 x7, .slice a2 n1 c2] 25)).cell? ⟨g1, 4, none⟩ = some (.int .i64 x4) := (unhide HR5).cell 4
  have r5 : (w4.alloc (.cells #[.int .i64 x0, .int .i64 x1, .int .i64 x2, .int .i64 x3, .int .i64 x4, .int .i64 x5, .int .i64 x6, .int .i64 x7, .slice a2 n1 c2] 25)).cell? ⟨g1, 5, none⟩ = some (.int .i64 x5) := (unhide HR5).cell 5
  have r6 : (w4.alloc (.cells #[.int .i64 x0, .int .i64 x1, .int .i64 x2, .int .i64 x3, .int .i64 x4, .int .i64 x5, .int .i64 x6, .int .i64 x7, .slice a2 n1 c2] 25)).cell? ⟨g1, 6, none⟩ = some (.int .i64 x6) := (unhide HR5).cell 6
  have r7 : (w4.alloc (.cells #[.int .i64 x0, .int .i64 x1, .int .i64 x2, .int .i64 x3, .int .i64 x4, .int .i64 x5, .int .i64 x6, .int .i64 x7, .slice a2 n1 c2] 25)).cell? ⟨g1, 7, none⟩ = some (.int .i64 x7) := (unhide HR5).cell 7
  have r8 : (w4.alloc (.cells #[.int .i64 x0, .int .i64 x1, .int .i64 x2, .int .i64 x3, .int .i64 x4, .int .i64 x5, .int .i64 x6, .int .i64 x7, .slice a2 n1 c2] 25)).cell? ⟨g1, 8, none⟩ = some (.slice a1 n1 c1) := (unhide HR5).cell 8
  have d0 : (w4.alloc (.cells #[.int .i64 x0, .int .i64 x1, .int .i64 x2, .int .i64 x3, .int .i64 x4, .int .i64 x5, .int .i64 x6, .int .i64 x7, .slice a2 n1 c2] 25)).cell? ⟨w4.heap.size, 0, none⟩ = some (.int .i64 x0) := (unhide HD5).cell 0
  have d1 : (w4.alloc (.cells #[.int .i64 x0, .int .i64 x1, .int .i64 x2, .int .i64 x3, .int .i64 x4, .int .i64 x5, .int .i64 x6, .int .i64 x7, .slice a2 n1 c2] 25)).cell? ⟨w4.heap.size, 1, none⟩ = some (.int .i64 x1) := (unhide HD5).cell 1
  have d2 : (w4.alloc (.cells #[.int .i64 x0, .int .i64 x1, .int .i64 x2, .int .i64 x3, .int .i64 x4, .int .i64 x5, .int .i64 x6, .int .i64 x7, .slice a2 n1 c2] 25)).cell? ⟨w4.heap.size, 2, none⟩ = some (.int .i64 x2) := (unhide HD5).cell 2
  have d3 : (w4.alloc (.cells #[.int .i64 x0, .int .i64 x1, .int .i64 x2, .int .i64 x3, .int .i64 x4, .int .i64 x5, .int .i64 x6, .int .i64 x7, .slice a2 n1 c2] 25)).cell? ⟨w4.heap.size, 3, none⟩ = some (.int .i64 x3) := (unhide HD5).cell 3
  have d4 : (w4.alloc (.cells #[.int .i64 x0, .int .i64 x1, .int .i64 x2, .int .i64 x3, .int .i64 x4, .int .i64 x5, .int .i64 x6, .int .i64 x7, .slice a2 n1 c2] 25)).cell? ⟨w4.heap.size, 4, none⟩ = some (.int .i64 x4) := (unhide HD5).cell 4
  have d5 : (w4.alloc (.cells #[.int .i64 x0, .int .i64 x1, .int .i64 x2, .int .i64 x3, .int .i64 x4, .int .i64 x5, .int .i64 x6, .int .i64 x7, .slice a2 n1 c2] 25)).cell? ⟨w4.heap.size, 5, none⟩ = some (.int .i64 x5) := (unhide HD5).cell 5
  have d6 : (w4.alloc (.cells #[.int .i64 x0, .int .i64 x1, .int .i64 x2, .int .i64 x3, .int .i64 x4, .int .i64 x5, .int .i64 x6, .int .i64 x7, .slice a2 n1 c2] 25)).cell? ⟨w4.heap.size, 6, none⟩ = some (.int .i64 x6) := (unhide HD5).cell 6
  have d7 : (w4.alloc (.cells #[.int .i64 x0, .int .i64 x1, .int .i64 x2, .int .i64 x3, .int .i64 x4, .int .i64 x5, .int .i64 x6, .int .i64 x7, .slice a2 n1 c2] 25)).cell? ⟨w4.heap.size, 7, none⟩ = some (.int .i64 x7) := (unhide HD5).cell 7
  have d8 : (w4.alloc (.cells #[.int .i64 x0, .int .i64 x1, .int .i64 x2, .int .i64 x3, .int .i64 x4, .int .i64 x5, .int .i64 x6, .int .i64 x7, .slice a2 n1 c2] 25)).cell? ⟨w4.heap.size, 8, none⟩ = some (.slice a2 n1 c2) := (unhide HD5).cell 8
  go_wp2_with fail
  generalize w4.alloc (.cells #[.int .i64 x0, .int .i64 x1, .int .i64 x2, .int .i64 x3, .int .i64 x4, .int .i64 x5, .int .i64 x6, .int .i64 x7, .slice a2 n1 c2] 25) = w5 at *
  refine Calls.mono (unhide HSA) ?_
  rintro e w6 ⟨rfl, b6⟩
  have HB6 := hide ((unhide HB5).trans (b6.mono (unhide HB5).size))
  have HY6 := hide ((unhide HY5).call b6)
  clear b6 r0 r1 r2 r3 r4 r5 r6 r7 r8 d0 d1 d2 d3 d4 d5 d6 d7 d8 HB5 HSA HR5 HD5 HY5 HP5 HQ5
  have HEQ := hide (equal_same _ _ l w6 (unhide HY6) ((unhide HV).call (unhide HB6)) (unhide H8))
  go_wp2_with fail
  refine Calls.mono (unhide HEQ) ?_
  rintro e wq ⟨rfl, rfl⟩
  go_wp2_with fail
  refine Calls.mono (unhide HAW w6 (unhide HB6)) ?_
  rintro e w7 ⟨rfl, b7⟩
  have HB7 := hide ((unhide HB6).trans (b7.mono (unhide HB6).size))
  clear b7
  go_wp2_with fail
  go_ret
  exact ⟨by simp, unhide HB7⟩
end Go.Proofs.YtbnfilhilgjnfaaDoor
