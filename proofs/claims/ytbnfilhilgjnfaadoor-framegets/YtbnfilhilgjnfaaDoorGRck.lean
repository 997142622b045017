/- Whether a message may be: the document's answer; FrameChecks' walk. -/
import Derived.Test.YtbnfilhilgjnfaaDoorGRf0
import Derived.Test.YtbnfilhilgjnfaaDoorGSml
namespace Go.Proofs.YtbnfilhilgjnfaaDoor
set_option linter.unusedVariables false
set_option linter.unusedSimpArgs false
open Go.ChangeShapes Go.WideShapes Go.ChangeAt Go.RowKit Go.Joins

def letL : List Nat := [119, 115, 114, 97, 110, 116, 101]
theorem has_bit : ∀ k, k < 11 → ∀ j, j < 7 → hasB (ltr k) (letL.getD j 0) = (fieldsL.getD k 0 / 2 ^ j % 2 == 1) := by decide +kernel
theorem has_e : ∀ k, k < 11 → hasB (ltr k) 69 = hasE k := by decide +kernel
theorem ltr_len : ∀ k, k < 11 → (ltr k).length ≤ 1000 := by decide +kernel
theorem lightB_nil : lightB [] = true := rfl
set_option maxRecDepth 100000 in
set_option maxHeartbeats 8000000 in
theorem rcheck_any (k x0 x1 x2 x3 x4 x5 x6 : Int) (a : Option Addr) (l : List Ed.Pt) (c : Nat) (w : World) (hp : Ed.PtsAt w a l) (hc : l.length ≤ 4000) (hs : ∀ p ∈ l, p.text.size ≤ 281474976710656) :
    Calls Tryd.prog 11 #[msgV k x0 x1 x2 x3 x4 x5 x6 (.slice a l.length c)] w fun e w' => CkR k (nsF x0 x1 x2 x3 x4 x5 x6) l w e w' := by
  obtain ⟨n, hn⟩ : ∃ n, l.length = n := ⟨_, rfl⟩
  have HL : Hid (∀ w1, Below w.heap.size w w1 → Calls Tryd.prog 13 #[.slice a l.length c] w1 fun r w' => r = .returned (.bool (lightB l)) ∧ Below w1.heap.size w1 w') := hide (fun w1 hb => rlight_any a l c w1 (hp.call hb) hc hs)
  rw [hn] at HL ⊢
  have HN := hide hn
  clear hp hs hn hc
  have b1 : Below w.heap.size w (w.alloc (.cells #[.int .i64 k, .int .i64 x0, .int .i64 x1, .int .i64 x2, .int .i64 x3, .int .i64 x4, .int .i64 x5, .int .i64 x6, .slice a n c] 25)) := (Below.refl _ _).alloc (Nat.le_refl _) _
  have HR := hide (RowAt.new w 25 [.int .i64 k, .int .i64 x0, .int .i64 x1, .int .i64 x2, .int .i64 x3, .int .i64 x4, .int .i64 x5, .int .i64 x6, .slice a n c])
  have HB1 := hide b1
  unfold msgV
  clear b1
  by_cases hk1 : k < 1
  · have HNO : Hid (¬ MsgOk k (nsF x0 x1 x2 x3 x4 x5 x6) l) := hide (fun h => by have := h.1; omega)
    have c0 : (w.alloc (.cells #[.int .i64 k, .int .i64 x0, .int .i64 x1, .int .i64 x2, .int .i64 x3, .int .i64 x4, .int .i64 x5, .int .i64 x6, .slice a n c] 25)).cell? ⟨w.heap.size, 0, none⟩ = some (.int .i64 k) := (unhide HR).cell 0
    have c1 : (w.alloc (.cells #[.int .i64 k, .int .i64 x0, .int .i64 x1, .int .i64 x2, .int .i64 x3, .int .i64 x4, .int .i64 x5, .int .i64 x6, .slice a n c] 25)).cell? ⟨w.heap.size, 1, none⟩ = some (.int .i64 x0) := (unhide HR).cell 1
    have c2 : (w.alloc (.cells #[.int .i64 k, .int .i64 x0, .int .i64 x1, .int .i64 x2, .int .i64 x3, .int .i64 x4, .int .i64 x5, .int .i64 x6, .slice a n c] 25)).cell? ⟨w.heap.size, 2, none⟩ = some (.int .i64 x1) := (unhide HR).cell 2
    have c3 : (w.alloc (.cells #[.int .i64 k, .int .i64 x0, .int .i64 x1, .int .i64 x2, .int .i64 x3, .int .i64 x4, .int .i64 x5, .int .i64 x6, .slice a n c] 25)).cell? ⟨w.heap.size, 3, none⟩ = some (.int .i64 x2) := (unhide HR).cell 3
    have c4 : (w.alloc (.cells #[.int .i64 k, .int .i64 x0, .int .i64 x1, .int .i64 x2, .int .i64 x3, .int .i64 x4, .int .i64 x5, .int .i64 x6, .slice a n c] 25)).cell? ⟨w.heap.size, 4, none⟩ = some (.int .i64 x3) := (unhide HR).cell 4
    have c5 : (w.alloc (.cells #[.int .i64 k, .int .i64 x0, .int .i64 x1, .int .i64 x2, .int .i64 x3, .int .i64 x4, .int .i64 x5, .int .i64 x6, .slice a n c] 25)).cell? ⟨w.heap.size, 5, none⟩ = some (.int .i64 x4) := (unhide HR).cell 5
    have c6 : (w.alloc (.cells #[.int .i64 k, .int .i64 x0, .int .i64 x1, .int .i64 x2, .int .i64 x3, .int .i64 x4, .int .i64 x5, .int .i64 x6, .slice a n c] 25)).cell? ⟨w.heap.size, 6, none⟩ = some (.int .i64 x5) := (unhide HR).cell 6
    have c7 : (w.alloc (.cells #[.int .i64 k, .int .i64 x0, .int .i64 x1, .int .i64 x2, .int .i64 x3, .int .i64 x4, .int .i64 x5, .int .i64 x6, .slice a n c] 25)).cell? ⟨w.heap.size, 7, none⟩ = some (.int .i64 x6) := (unhide HR).cell 7
    have c8 : (w.alloc (.cells #[.int .i64 k, .int .i64 x0, .int .i64 x1, .int .i64 x2, .int .i64 x3, .int .i64 x4, .int .i64 x5, .int .i64 x6, .slice a n c] 25)).cell? ⟨w.heap.size, 8, none⟩ = some (.slice a n c) := (unhide HR).cell 8
    go_enter Tryd.func11, Tryd.ntmps11
    go_wp2_with fail
    go_ret
    exact CkR.no (unhide HNO) (unhide HB1)
  have hk1d : decide (k < 1) = false := by simpa using hk1
  by_cases hk2 : 10 < k
  · have HNO : Hid (¬ MsgOk k (nsF x0 x1 x2 x3 x4 x5 x6) l) := hide (fun h => by have := h.2.1; omega)
    have c0 : (w.alloc (.cells #[.int .i64 k, .int .i64 x0, .int .i64 x1, .int .i64 x2, .int .i64 x3, .int .i64 x4, .int .i64 x5, .int .i64 x6, .slice a n c] 25)).cell? ⟨w.heap.size, 0, none⟩ = some (.int .i64 k) := (unhide HR).cell 0
    have c1 : (w.alloc (.cells #[.int .i64 k, .int .i64 x0, .int .i64 x1, .int .i64 x2, .int .i64 x3, .int .i64 x4, .int .i64 x5, .int .i64 x6, .slice a n c] 25)).cell? ⟨w.heap.size, 1, none⟩ = some (.int .i64 x0) := (unhide HR).cell 1
    have c2 : (w.alloc (.cells #[.int .i64 k, .int .i64 x0, .int .i64 x1, .int .i64 x2, .int .i64 x3, .int .i64 x4, .int .i64 x5, .int .i64 x6, .slice a n c] 25)).cell? ⟨w.heap.size, 2, none⟩ = some (.int .i64 x1) := (unhide HR).cell 2
    have c3 : (w.alloc (.cells #[.int .i64 k, .int .i64 x0, .int .i64 x1, .int .i64 x2, .int .i64 x3, .int .i64 x4, .int .i64 x5, .int .i64 x6, .slice a n c] 25)).cell? ⟨w.heap.size, 3, none⟩ = some (.int .i64 x2) := (unhide HR).cell 3
    have c4 : (w.alloc (.cells #[.int .i64 k, .int .i64 x0, .int .i64 x1, .int .i64 x2, .int .i64 x3, .int .i64 x4, .int .i64 x5, .int .i64 x6, .slice a n c] 25)).cell? ⟨w.heap.size, 4, none⟩ = some (.int .i64 x3) := (unhide HR).cell 4
    have c5 : (w.alloc (.cells #[.int .i64 k, .int .i64 x0, .int .i64 x1, .int .i64 x2, .int .i64 x3, .int .i64 x4, .int .i64 x5, .int .i64 x6, .slice a n c] 25)).cell? ⟨w.heap.size, 5, none⟩ = some (.int .i64 x4) := (unhide HR).cell 5
    have c6 : (w.alloc (.cells #[.int .i64 k, .int .i64 x0, .int .i64 x1, .int .i64 x2, .int .i64 x3, .int .i64 x4, .int .i64 x5, .int .i64 x6, .slice a n c] 25)).cell? ⟨w.heap.size, 6, none⟩ = some (.int .i64 x5) := (unhide HR).cell 6
    have c7 : (w.alloc (.cells #[.int .i64 k, .int .i64 x0, .int .i64 x1, .int .i64 x2, .int .i64 x3, .int .i64 x4, .int .i64 x5, .int .i64 x6, .slice a n c] 25)).cell? ⟨w.heap.size, 7, none⟩ = some (.int .i64 x6) := (unhide HR).cell 7
    have c8 : (w.alloc (.cells #[.int .i64 k, .int .i64 x0, .int .i64 x1, .int .i64 x2, .int .i64 x3, .int .i64 x4, .int .i64 x5, .int .i64 x6, .slice a n c] 25)).cell? ⟨w.heap.size, 8, none⟩ = some (.slice a n c) := (unhide HR).cell 8
    go_enter Tryd.func11, Tryd.ntmps11
    go_wp2_with fail
    go_ret
    exact CkR.no (unhide HNO) (unhide HB1)
  have hk2d : decide (10 < k) = false := by simpa using hk2
  obtain ⟨kn, rfl⟩ : ∃ kn : Nat, k = (kn : Int) := ⟨k.toNat, by omega⟩
  have c0 : (w.alloc (.cells #[.int .i64 (kn : Int), .int .i64 x0, .int .i64 x1, .int .i64 x2, .int .i64 x3, .int .i64 x4, .int .i64 x5, .int .i64 x6, .slice a n c] 25)).cell? ⟨w.heap.size, 0, none⟩ = some (.int .i64 (kn : Int)) := (unhide HR).cell 0
  have c1 : (w.alloc (.cells #[.int .i64 (kn : Int), .int .i64 x0, .int .i64 x1, .int .i64 x2, .int .i64 x3, .int .i64 x4, .int .i64 x5, .int .i64 x6, .slice a n c] 25)).cell? ⟨w.heap.size, 1, none⟩ = some (.int .i64 x0) := (unhide HR).cell 1
  have c2 : (w.alloc (.cells #[.int .i64 (kn : Int), .int .i64 x0, .int .i64 x1, .int .i64 x2, .int .i64 x3, .int .i64 x4, .int .i64 x5, .int .i64 x6, .slice a n c] 25)).cell? ⟨w.heap.size, 2, none⟩ = some (.int .i64 x1) := (unhide HR).cell 2
  have c3 : (w.alloc (.cells #[.int .i64 (kn : Int), .int .i64 x0, .int .i64 x1, .int .i64 x2, .int .i64 x3, .int .i64 x4, .int .i64 x5, .int .i64 x6, .slice a n c] 25)).cell? ⟨w.heap.size, 3, none⟩ = some (.int .i64 x2) := (unhide HR).cell 3
  have c4 : (w.alloc (.cells #[.int .i64 (kn : Int), .int .i64 x0, .int .i64 x1, .int .i64 x2, .int .i64 x3, .int .i64 x4, .int .i64 x5, .int .i64 x6, .slice a n c] 25)).cell? ⟨w.heap.size, 4, none⟩ = some (.int .i64 x3) := (unhide HR).cell 4
  have c5 : (w.alloc (.cells #[.int .i64 (kn : Int), .int .i64 x0, .int .i64 x1, .int .i64 x2, .int .i64 x3, .int .i64 x4, .int .i64 x5, .int .i64 x6, .slice a n c] 25)).cell? ⟨w.heap.size, 5, none⟩ = some (.int .i64 x4) := (unhide HR).cell 5
  have c6 : (w.alloc (.cells #[.int .i64 (kn : Int), .int .i64 x0, .int .i64 x1, .int .i64 x2, .int .i64 x3, .int .i64 x4, .int .i64 x5, .int .i64 x6, .slice a n c] 25)).cell? ⟨w.heap.size, 6, none⟩ = some (.int .i64 x5) := (unhide HR).cell 6
  have c7 : (w.alloc (.cells #[.int .i64 (kn : Int), .int .i64 x0, .int .i64 x1, .int .i64 x2, .int .i64 x3, .int .i64 x4, .int .i64 x5, .int .i64 x6, .slice a n c] 25)).cell? ⟨w.heap.size, 7, none⟩ = some (.int .i64 x6) := (unhide HR).cell 7
  have c8 : (w.alloc (.cells #[.int .i64 (kn : Int), .int .i64 x0, .int .i64 x1, .int .i64 x2, .int .i64 x3, .int .i64 x4, .int .i64 x5, .int .i64 x6, .slice a n c] 25)).cell? ⟨w.heap.size, 8, none⟩ = some (.slice a n c) := (unhide HR).cell 8
  have kz1 : ¬ ((kn : Int) < 1) := by omega
  have kz2 : ¬ ((10 : Int) < (kn : Int)) := by omega
  have hkn1 : 1 ≤ kn := by omega
  have hkn2 : kn ≤ 10 := by omega
  go_enter Tryd.func11, Tryd.ntmps11
  go_wp2_with fail
  generalize w.alloc (.cells #[.int .i64 (kn : Int), .int .i64 x0, .int .i64 x1, .int .i64 x2, .int .i64 x3, .int .i64 x4, .int .i64 x5, .int .i64 x6, .slice a n c] 25) = w1 at *
  refine Calls.mono (letters_any kn w1 hkn1 hkn2) ?_
  rintro e wq ⟨rfl, rfl⟩
  obtain ⟨ls, hls⟩ : ∃ ls, (⟨(ltr kn).toArray⟩ : ByteArray) = ls := ⟨_, rfl⟩
  have HHS : Hid (∀ x W, x < 256 → Calls Tryd.prog 27 #[.string ls, .int .u8 ((x : Nat) : Int)] W fun r w' => r = .returned (.bool (hasB (ltr kn) x)) ∧ W = w') := hide (fun x W hx => by rw [← hls]; exact has_any (ltr kn) x W (ltr_len kn (by omega)) hx)
  rw [hls]
  clear hls
  have b2 : Below w1.heap.size w1 (w1.alloc (.cells #[.int .i64 x0, .int .i64 x1, .int .i64 x2, .int .i64 x3, .int .i64 x4, .int .i64 x5, .int .i64 x6] 3)) := (Below.refl _ _).alloc (Nat.le_refl _) _
  have R2 := RowAt.new w1 3 [.int .i64 x0, .int .i64 x1, .int .i64 x2, .int .i64 x3, .int .i64 x4, .int .i64 x5, .int .i64 x6]
  obtain ⟨w2, hw2⟩ : ∃ w2, w1.alloc (.cells #[.int .i64 x0, .int .i64 x1, .int .i64 x2, .int .i64 x3, .int .i64 x4, .int .i64 x5, .int .i64 x6] 3) = w2 := ⟨_, rfl⟩
  rw [hw2] at b2 R2
  have b3 : Below w2.heap.size w2 (w2.alloc (.cells #[.int .i64 7, .int .i64 1099511627776, .int .i64 1099511627776, .int .i64 1099511627776, .int .i64 1099511627776, .int .i64 31, .int .i64 1000] 3)) := (Below.refl _ _).alloc (Nat.le_refl _) _
  have R3 := RowAt.new w2 3 [.int .i64 7, .int .i64 1099511627776, .int .i64 1099511627776, .int .i64 1099511627776, .int .i64 1099511627776, .int .i64 31, .int .i64 1000]
  obtain ⟨w3, hw3⟩ : ∃ w3, w2.alloc (.cells #[.int .i64 7, .int .i64 1099511627776, .int .i64 1099511627776, .int .i64 1099511627776, .int .i64 1099511627776, .int .i64 31, .int .i64 1000] 3) = w3 := ⟨_, rfl⟩
  rw [hw3] at b3 R3
  have b4 : Below w3.heap.size w3 (w3.alloc (.cells #[.int .u8 119, .int .u8 115, .int .u8 114, .int .u8 97, .int .u8 110, .int .u8 116, .int .u8 101] 5)) := (Below.refl _ _).alloc (Nat.le_refl _) _
  have R4 := RowAt.new w3 5 [.int .u8 119, .int .u8 115, .int .u8 114, .int .u8 97, .int .u8 110, .int .u8 116, .int .u8 101]
  obtain ⟨w4, hw4⟩ : ∃ w4, w3.alloc (.cells #[.int .u8 119, .int .u8 115, .int .u8 114, .int .u8 97, .int .u8 110, .int .u8 116, .int .u8 101] 5) = w4 := ⟨_, rfl⟩
  rw [hw4] at b4 R4
  obtain ⟨gN, hgN⟩ : ∃ g, w1.heap.size = g := ⟨_, rfl⟩
  have hgM : w2.heap.size = gN + 1 := by rw [← hw2, ← hgN]; simp
  have hgC : w3.heap.size = gN + 1 + 1 := by rw [← hw3, ← hgM]; simp
  have HB4 : Hid (Below w.heap.size w w4) := hide ((unhide HB1).trans ((b2.trans ((b3.trans (b4.mono b3.size)).mono b2.size)).mono (unhide HB1).size))
  have HR4 : Hid (RowAt w4 w.heap.size 25 [.int .i64 (kn : Int), .int .i64 x0, .int .i64 x1, .int .i64 x2, .int .i64 x3, .int .i64 x4, .int .i64 x5, .int .i64 x6, .slice a n c]) := hide ((unhide HR).below ((b2.trans ((b3.trans (b4.mono b3.size)).mono b2.size))) (unhide HR).lt)
  have RN := R2.below (b3.trans (b4.mono b3.size)) R2.lt
  have RM := R3.below b4 R3.lt
  rw [hgN] at RN
  rw [hgM] at RM
  rw [hgC] at R4
  have HCN : Hid (∀ W j, Below w4.heap.size w4 W → j < 7 → W.cell? ⟨gN, j, none⟩ = some (.int .i64 (nsF x0 x1 x2 x3 x4 x5 x6 j))) := hide (fun W j hb hj => by
    have R := RN.below hb RN.lt
    have : j = 0 ∨ j = 1 ∨ j = 2 ∨ j = 3 ∨ j = 4 ∨ j = 5 ∨ j = 6 := by omega
    rcases this with rfl | rfl | rfl | rfl | rfl | rfl | rfl
    · exact R.cell 0
    · exact R.cell 1
    · exact R.cell 2
    · exact R.cell 3
    · exact R.cell 4
    · exact R.cell 5
    · exact R.cell 6)
  have HCM : Hid (∀ W j, Below w4.heap.size w4 W → j < 7 → W.cell? ⟨gN + 1, j, none⟩ = some (.int .i64 ((mostL.getD j 0 : Nat) : Int))) := hide (fun W j hb hj => by
    have R := RM.below hb RM.lt
    have : j = 0 ∨ j = 1 ∨ j = 2 ∨ j = 3 ∨ j = 4 ∨ j = 5 ∨ j = 6 := by omega
    rcases this with rfl | rfl | rfl | rfl | rfl | rfl | rfl
    · exact R.cell 0
    · exact R.cell 1
    · exact R.cell 2
    · exact R.cell 3
    · exact R.cell 4
    · exact R.cell 5
    · exact R.cell 6)
  have HCC : Hid (∀ W j, Below w4.heap.size w4 W → j < 7 → W.cell? ⟨gN + 1 + 1, j, none⟩ = some (.int .u8 ((letL.getD j 0 : Nat) : Int))) := hide (fun W j hb hj => by
    have R := R4.below hb R4.lt
    have : j = 0 ∨ j = 1 ∨ j = 2 ∨ j = 3 ∨ j = 4 ∨ j = 5 ∨ j = 6 := by omega
    rcases this with rfl | rfl | rfl | rfl | rfl | rfl | rfl
    · exact R.cell 0
    · exact R.cell 1
    · exact R.cell 2
    · exact R.cell 3
    · exact R.cell 4
    · exact R.cell 5
    · exact R.cell 6)
  clear RN RM R2 R3 R4 b2 b3 b4
  have e2 := hw2
  have e3 := hw3
  have e4 := hw4
  clear hw2 hw3 hw4
  have HE2 := hide e2
  have HE3 := hide e3
  have HE4 := hide e4
  have HGN := hide hgN
  have HGM := hide hgM
  have HGC := hide hgC
  clear e2 e3 e4 hgN hgM hgC
  go_wp2_with fail
  simp only [unhide HE2, unhide HGN]
  simp only [unhide HE3]
  simp only [unhide HE4]
  clear c0 c1 c2 c3 c4 c5 c6 c7 c8
  go_loopw [37] (fun s wr => ∃ j : Nat, j ≤ 7 ∧ s = .int .i64 (j : Int) ∧ Hid (Below w4.heap.size w4 wr) ∧ Hid (∀ i, i < j → 0 ≤ nsF x0 x1 x2 x3 x4 x5 x6 i ∧ nsF x0 x1 x2 x3 x4 x5 x6 i ≤ limN kn i)) (fun s _ => (7 - intOf s).toNat)
  case atStart => exact ⟨0, by omega, rfl, hide (Below.refl _ _), hide (fun i hi => by omega)⟩
  case round =>
    obtain ⟨j, hj, rfl, HBW, HI⟩ := hrel
    by_cases hlt : j < 7
    · have hjI : (j : Int) < 7 := by omega
      have hj0 : (0 : Int) ≤ (j : Int) := by omega
      obtain ⟨x, hx⟩ : ∃ x, nsF x0 x1 x2 x3 x4 x5 x6 j = x := ⟨_, rfl⟩
      obtain ⟨mj, hmj⟩ : ∃ m, mostL.getD j 0 = m := ⟨_, rfl⟩
      obtain ⟨cj, hcj⟩ : ∃ m, letL.getD j 0 = m := ⟨_, rfl⟩
      have hcl : cj < 256 := by
        have : ∀ j, j < 7 → letL.getD j 0 < 256 := by decide
        rw [← hcj]; exact this j hlt
      have HBQ : Hid (∀ nq, Below w.heap.size w (wr.drewN nq)) := hide (fun nq => ((unhide HB4).trans ((unhide HBW).mono (unhide HB4).size)).trans ((Joins.below_draws _ _ nq).mono (Nat.le_trans (unhide HB4).size (unhide HBW).size)))
      have HBN : Hid (∀ nq, Below w4.heap.size w4 (wr.drewN nq)) := hide (fun nq => (unhide HBW).trans ((Joins.below_draws _ _ nq).mono (unhide HBW).size))
      have k0 := unhide HCN wr j (unhide HBW) hlt
      have k1 := unhide HCM wr j (unhide HBW) hlt
      have k2 := unhide HCC wr j (unhide HBW) hlt
      rw [hx] at k0
      rw [hmj] at k1
      rw [hcj] at k2
      have HLM : Hid (limN kn j = if hasB (ltr kn) cj = true then (mj : Int) else 0) := hide (by
        unfold limN
        rw [← hcj, has_bit kn (by omega) j hlt, hmj]
        simp)
      have HX := hide hx
      obtain ⟨hb, hhb⟩ : ∃ hb, hasB (ltr kn) cj = hb := ⟨_, rfl⟩
      have HQ : Hid (∀ q, Calls Tryd.prog 27 #[.string ls, .int .u8 (cj : Int)] (wr.drewN q) fun r w' => r = .returned (.bool hb) ∧ w' = wr.drewN q) := hide (fun q => by rw [← hhb]; exact Calls.mono (unhide HHS cj _ hcl) (fun _ _ h => ⟨h.1, h.2.symm⟩))
      rw [hhb] at HLM
      have HS : Hid ((mj : Int) ≤ 1099511627776) := hide (by
        have : ∀ j, j < 7 → mostL.getD j 0 ≤ 1099511627776 := by decide
        have := this j hlt; omega)
      clear hmj hcj hx hhb hcl
      by_cases hx0 : x < 0
      · have HNO : Hid (¬ MsgOk (kn : Int) (nsF x0 x1 x2 x3 x4 x5 x6) l) := hide (fun h => by have := (h.2.2.1 j hlt).1; rw [unhide HX] at this; omega)
        have hx0d : decide (x < 0) = true := by simpa using hx0
        go_wp2_with fail
        go_quiet (first | (go_at_call 27; exact Calls.quiet_of_same (unhide HQ _)))
        go_wp2_with fail
        go_ret
        exact CkR.no (unhide HNO) (unhide HBQ nq)
      have hx0d : decide (x < 0) = false := by simpa using hx0
      have hx0n : 0 ≤ x := by omega
      by_cases hx1 : (mj : Int) < x
      · have HNO : Hid (¬ MsgOk (kn : Int) (nsF x0 x1 x2 x3 x4 x5 x6) l) := hide (fun h => by have := (h.2.2.1 j hlt).2; rw [Int.toNat_natCast, unhide HX, unhide HLM] at this; split at this <;> omega)
        have hx1d : decide ((mj : Int) < x) = true := by simpa using hx1
        go_wp2_with fail
        go_quiet (first | (go_at_call 27; exact Calls.quiet_of_same (unhide HQ _)))
        go_wp2_with fail
        go_ret
        exact CkR.no (unhide HNO) (unhide HBQ nq)
      have hx1d : decide ((mj : Int) < x) = false := by simpa using hx1
      have hx1n : x ≤ (mj : Int) := by omega
      cases hb with
      | true =>
        have HOK : Hid (0 ≤ nsF x0 x1 x2 x3 x4 x5 x6 j ∧ nsF x0 x1 x2 x3 x4 x5 x6 j ≤ limN kn j) := hide (by rw [unhide HX, unhide HLM, if_pos rfl]; omega)
        go_wp2_with fail
        go_quiet (first | (go_at_call 27; exact Calls.quiet_of_same (unhide HQ _)))
        go_wp2_with fail
        go_roundw
        case rel => exact ⟨j + 1, by omega, by go_num, hide (unhide HBN nq), hide (fun i hi => by
          by_cases h : i = j
          · subst h; exact unhide HOK
          · exact unhide HI i (by omega))⟩
        case measure => simp [intOf]; omega
      | false =>
        by_cases xz : x = 0
        · have HOK : Hid (0 ≤ nsF x0 x1 x2 x3 x4 x5 x6 j ∧ nsF x0 x1 x2 x3 x4 x5 x6 j ≤ limN kn j) := hide (by rw [unhide HX, unhide HLM, if_neg (by simp)]; omega)
          have xzb : (x != 0) = false := by simp [xz]
          go_wp2_with fail
          go_quiet (first | (go_at_call 27; exact Calls.quiet_of_same (unhide HQ _)))
          go_wp2_with fail
          go_roundw
          case rel => exact ⟨j + 1, by omega, by go_num, hide (unhide HBN nq), hide (fun i hi => by
            by_cases h : i = j
            · subst h; exact unhide HOK
            · exact unhide HI i (by omega))⟩
          case measure => simp [intOf]; omega
        · have HNO : Hid (¬ MsgOk (kn : Int) (nsF x0 x1 x2 x3 x4 x5 x6) l) := hide (fun h => by have := (h.2.2.1 j hlt).2; rw [Int.toNat_natCast, unhide HX, unhide HLM, if_neg (by simp)] at this; omega)
          have xzb : (x != 0) = true := by simp [xz]
          go_wp2_with fail
          go_quiet (first | (go_at_call 27; exact Calls.quiet_of_same (unhide HQ _)))
          go_wp2_with fail
          go_ret
          exact CkR.no (unhide HNO) (unhide HBQ nq)
    · obtain rfl : j = 7 := by omega
      have hjI : ¬ ((7 : Nat) : Int) < 7 := by omega
      have HBX : Hid (Below w.heap.size w wr) := hide ((unhide HB4).trans ((unhide HBW).mono (unhide HB4).size))
      have HRW := hide ((unhide HR4).below (unhide HBW) (unhide HR4).lt)
      have d8 : wr.cell? ⟨w.heap.size, 8, none⟩ = some (.slice a n c) := (unhide HRW).cell 8
      have HHE := has_e kn (by omega)
      have HH1 := hide (unhide HHS 69 wr (by omega))
      rw [HHE] at HH1
      cases he : hasE kn with
      | true =>
        rw [he] at HH1
        have HEE := hide he
        clear he HHE
        go_wp2_with fail
        refine Calls.mono (unhide HH1) ?_
        rintro e wq ⟨rfl, rfl⟩
        go_wp2_with fail
        refine Calls.mono (unhide HL wr (unhide HBX)) ?_
        rintro e w5 ⟨rfl, b5⟩
        have HB5 := hide ((unhide HBX).trans (b5.mono (unhide HBX).size))
        have HH5 := hide (unhide HHS 69 w5 (by omega))
        rw [has_e kn (by omega), unhide HEE] at HH5
        clear b5 d8
        cases hlb : lightB l with
        | false =>
          have HNO : Hid (¬ MsgOk (kn : Int) (nsF x0 x1 x2 x3 x4 x5 x6) l) := hide (fun h => by have := h.2.2.2.2; rw [hlb] at this; cases this)
          go_wp2_with fail
          go_ret
          exact CkR.no (unhide HNO) (unhide HB5)
        | true =>
          have HYE : Hid (MsgOk (kn : Int) (nsF x0 x1 x2 x3 x4 x5 x6) l) := hide ⟨by omega, by omega, fun i hi => by rw [Int.toNat_natCast]; exact unhide HI i hi, .inl (by rw [Int.toNat_natCast]; exact unhide HEE), hlb⟩
          go_wp2_with fail
          refine Calls.mono (unhide HH5) ?_
          rintro e wq ⟨rfl, rfl⟩
          go_wp2_with fail
          go_ret
          exact CkR.yes (unhide HYE) (unhide HB5)
      | false =>
        rw [he] at HH1
        have HEE := hide he
        clear he HHE
        by_cases h0 : n = 0
        · subst h0
          have HLN : Hid (l = []) := hide (List.eq_nil_of_length_eq_zero (unhide HN))
          have HYE : Hid (MsgOk (kn : Int) (nsF x0 x1 x2 x3 x4 x5 x6) l) := hide ⟨by omega, by omega, fun i hi => by rw [Int.toNat_natCast]; exact unhide HI i hi, .inr (unhide HN), by rw [unhide HLN]; exact lightB_nil⟩
          have nz : ¬ (0 : Int) < ((0 : Nat) : Int) := by omega
          go_wp2_with fail
          refine Calls.mono (unhide HH1) ?_
          rintro e wq ⟨rfl, rfl⟩
          go_wp2_with fail
          refine Calls.mono (unhide HH1) ?_
          rintro e wq ⟨rfl, rfl⟩
          go_wp2_with fail
          go_ret
          exact CkR.yes (unhide HYE) (unhide HBX)
        · have nz : (0 : Int) < (n : Int) := by omega
          have HNO : Hid (¬ MsgOk (kn : Int) (nsF x0 x1 x2 x3 x4 x5 x6) l) := hide (fun h => by
            rcases h.2.2.2.1 with h | h
            · rw [Int.toNat_natCast, unhide HEE] at h; cases h
            · have := unhide HN; omega)
          go_wp2_with fail
          refine Calls.mono (unhide HH1) ?_
          rintro e wq ⟨rfl, rfl⟩
          go_wp2_with fail
          refine Calls.mono (unhide HH1) ?_
          rintro e wq ⟨rfl, rfl⟩
          go_wp2_with fail
          go_ret
          exact CkR.no (unhide HNO) (unhide HBX)
end Go.Proofs.YtbnfilhilgjnfaaDoor
