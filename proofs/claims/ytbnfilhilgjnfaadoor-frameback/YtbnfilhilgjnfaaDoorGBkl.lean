/- FrameBack: the walk. -/
import Derived.Test.YtbnfilhilgjnfaaDoorGBck
namespace Go.Proofs.YtbnfilhilgjnfaaDoor
set_option linter.unusedVariables false
set_option linter.unusedSimpArgs false
set_option maxRecDepth 100000
open Go.ChangeShapes Go.WideShapes Go.ChangeAt Go.RowKit Go.Joins

set_option maxHeartbeats 8000000 in
theorem back_law (k x0 x1 x2 x3 x4 x5 x6 : Int) (a : Option Addr) (l : List Ed.Pt) (c : Nat) (vb : Value) (b : List Nat) (w : World) (hT : GLay w) (hp : Ed.PtsAt w a l) (hc : l.length ≤ maxLen) (hs : ∀ p ∈ l, p.text.size ≤ 281474976710656) (hb : Byt w vb b) (hb8 : U8 b) :
    Calls Tryd.prog 6 #[msgV k x0 x1 x2 x3 x4 x5 x6 (.slice a l.length c), vb] w fun e w' => e = .returned (.bool true) ∧ Below w.heap.size w w' := by
  have HLT : Hid (∀ w1, Below w.heap.size w w1 → Calls Tryd.prog 8 #[msgV k x0 x1 x2 x3 x4 x5 x6 (.slice a l.length c)] w1 fun e w' => LtR l.length w1 e w') := hide (fun w1 hb => llight_any k x0 x1 x2 x3 x4 x5 x6 a l c w1 (hp.call hb) hc)
  have HPU : Hid (∀ w1, Below w.heap.size w w1 → l.length ≤ 500 → Calls Tryd.prog 14 #[msgV k x0 x1 x2 x3 x4 x5 x6 (.slice a l.length c)] w1 fun e w' => PuR k x0 x1 x2 x3 x4 x5 x6 l w1 e w') := hide (fun w1 hb h5 => fput_any k x0 x1 x2 x3 x4 x5 x6 a l c w1 (hT.below hb).1.2 (hT.below hb).2.1 (hT.below hb).2.2 (hp.call hb) (by omega) hs)
  have HAW : Hid (∀ w1, Below w.heap.size w w1 → Calls Tryd.prog 9 #[] w1 fun e w' => e = .returned (.bool true) ∧ Below w1.heap.size w1 w') := hide (fun w1 hb => fawake_any w1 (hT.below hb).1)
  have HGT : Hid (∀ w1 v L, Below w.heap.size w w1 → Byt w1 v L → U8 L → L.length ≤ 100000000 → Calls Tryd.prog 18 #[v] w1 fun r w' => GtR L w1 r w') := hide (fun w1 v L hb hv h8 hl => get_any v L w1 (hT.below hb) hv h8 hl)
  have HP9 : Hid (∀ w1 a' c', Below w.heap.size w w1 → b.length ≤ 16384 → Ed.PtsAt w1 a' (gEd b) → Calls Tryd.prog 14 #[msgV (nVal b 0) (nVal b 1) (nVal b 2) (nVal b 3) (nVal b 4) (nVal b 5) (nVal b 6) (nVal b 7) (.slice a' (gEd b).length c')] w1 fun e w' => PuR (nVal b 0) (nVal b 1) (nVal b 2) (nVal b 3) (nVal b 4) (nVal b 5) (nVal b 6) (nVal b 7) (gEd b) w1 e w') := hide (fun w1 a' c' hb hl hp' => fput_any (nVal b 0) (nVal b 1) (nVal b 2) (nVal b 3) (nVal b 4) (nVal b 5) (nVal b 6) (nVal b 7) a' (gEd b) c' w1 (hT.below hb).1.2 (hT.below hb).2.1 (hT.below hb).2.2 hp' (by have := gEd_len b; omega) (fun p hp => by have := gEd_size b p hp; omega))
  obtain ⟨ab, cbv, rfl⟩ := byt_shape hb
  obtain ⟨n, hn⟩ : ∃ n, l.length = n := ⟨_, rfl⟩
  obtain ⟨nb, hnb⟩ : ∃ n, b.length = n := ⟨_, rfl⟩
  rw [hn] at HLT HPU hc ⊢
  rw [hnb] at hb HP9 ⊢
  have HN := hide hn
  have HNB := hide hnb
  have HB := hide hb
  have HB8 := hide hb8
  have HP := hide hp
  clear hp hn hs hT hb hb8 hnb
  have b1 : Below w.heap.size w (w.alloc (.cells #[.int .i64 k, .int .i64 x0, .int .i64 x1, .int .i64 x2, .int .i64 x3, .int .i64 x4, .int .i64 x5, .int .i64 x6, .slice a n c] 25)) := (Below.refl _ _).alloc (Nat.le_refl _) _
  have HR := hide (RowAt.new w 25 [.int .i64 k, .int .i64 x0, .int .i64 x1, .int .i64 x2, .int .i64 x3, .int .i64 x4, .int .i64 x5, .int .i64 x6, .slice a n c])
  have HL1 := hide (unhide HLT _ b1)
  have HB1 := hide b1
  clear b1 HLT
  unfold msgV at *
  have c0 : (w.alloc (.cells #[.int .i64 k, .int .i64 x0, .int .i64 x1, .int .i64 x2, .int .i64 x3, .int .i64 x4, .int .i64 x5, .int .i64 x6, .slice a n c] 25)).cell? ⟨w.heap.size, 0, none⟩ = some (.int .i64 k) := (unhide HR).cell 0
  have c1 : (w.alloc (.cells #[.int .i64 k, .int .i64 x0, .int .i64 x1, .int .i64 x2, .int .i64 x3, .int .i64 x4, .int .i64 x5, .int .i64 x6, .slice a n c] 25)).cell? ⟨w.heap.size, 1, none⟩ = some (.int .i64 x0) := (unhide HR).cell 1
  have c2 : (w.alloc (.cells #[.int .i64 k, .int .i64 x0, .int .i64 x1, .int .i64 x2, .int .i64 x3, .int .i64 x4, .int .i64 x5, .int .i64 x6, .slice a n c] 25)).cell? ⟨w.heap.size, 2, none⟩ = some (.int .i64 x1) := (unhide HR).cell 2
  have c3 : (w.alloc (.cells #[.int .i64 k, .int .i64 x0, .int .i64 x1, .int .i64 x2, .int .i64 x3, .int .i64 x4, .int .i64 x5, .int .i64 x6, .slice a n c] 25)).cell? ⟨w.heap.size, 3, none⟩ = some (.int .i64 x2) := (unhide HR).cell 3
  have c4 : (w.alloc (.cells #[.int .i64 k, .int .i64 x0, .int .i64 x1, .int .i64 x2, .int .i64 x3, .int .i64 x4, .int .i64 x5, .int .i64 x6, .slice a n c] 25)).cell? ⟨w.heap.size, 4, none⟩ = some (.int .i64 x3) := (unhide HR).cell 4
  have c5 : (w.alloc (.cells #[.int .i64 k, .int .i64 x0, .int .i64 x1, .int .i64 x2, .int .i64 x3, .int .i64 x4, .int .i64 x5, .int .i64 x6, .slice a n c] 25)).cell? ⟨w.heap.size, 5, none⟩ = some (.int .i64 x4) := (unhide HR).cell 5
  have c6 : (w.alloc (.cells #[.int .i64 k, .int .i64 x0, .int .i64 x1, .int .i64 x2, .int .i64 x3, .int .i64 x4, .int .i64 x5, .int .i64 x6, .slice a n c] 25)).cell? ⟨w.heap.size, 6, none⟩ = some (.int .i64 x5) := (unhide HR).cell 6
  have c7 : (w.alloc (.cells #[.int .i64 k, .int .i64 x0, .int .i64 x1, .int .i64 x2, .int .i64 x3, .int .i64 x4, .int .i64 x5, .int .i64 x6, .slice a n c] 25)).cell? ⟨w.heap.size, 7, none⟩ = some (.int .i64 x6) := (unhide HR).cell 7
  have c8 : (w.alloc (.cells #[.int .i64 k, .int .i64 x0, .int .i64 x1, .int .i64 x2, .int .i64 x3, .int .i64 x4, .int .i64 x5, .int .i64 x6, .slice a n c] 25)).cell? ⟨w.heap.size, 8, none⟩ = some (.slice a n c) := (unhide HR).cell 8
  go_enter Tryd.func6, Tryd.ntmps6
  go_wp2_with fail
  generalize w.alloc (.cells #[.int .i64 k, .int .i64 x0, .int .i64 x1, .int .i64 x2, .int .i64 x3, .int .i64 x4, .int .i64 x5, .int .i64 x6, .slice a n c] 25) = w1 at *
  refine Calls.mono (unhide HL1) ?_
  rintro e w2 ⟨⟨bo, rfl, hb5⟩, b2⟩
  have HR2 := hide ((unhide HR).below b2 (unhide HR).lt)
  have HB2 := hide ((unhide HB1).trans (b2.mono (by have := (unhide HB1).size; omega)))
  have H5 := hide hb5
  clear b2 hb5 HL1 HB1 HR c0 c1 c2 c3 c4 c5 c6 c7 c8
  have HA2 := hide (unhide HAW w2 (unhide HB2))
  cases bo with
  | false =>
    go_wp2_with fail
    refine Calls.mono (unhide HA2) ?_
    rintro e w3 ⟨rfl, b3⟩
    have HB3 := hide ((unhide HB2).trans (b3.mono (unhide HB2).size))
    clear b3
    go_wp2_with fail
    go_ret
    exact ⟨rfl, unhide HB3⟩
  | true =>
    have hn5 : n ≤ 500 := unhide H5 rfl
    by_cases hlong : 16384 < nb
    · have hlz : (16384 : Int) < (nb : Int) := by omega
      go_wp2_with fail
      refine Calls.mono (unhide HA2) ?_
      rintro e w3 ⟨rfl, b3⟩
      have HB3 := hide ((unhide HB2).trans (b3.mono (unhide HB2).size))
      clear b3
      go_wp2_with fail
      go_ret
      exact ⟨rfl, unhide HB3⟩
    have hlz : ¬ (16384 : Int) < (nb : Int) := by omega
    have HP2 := hide (unhide HPU w2 (unhide HB2) hn5)
    have c0 : w2.cell? ⟨w.heap.size, 0, none⟩ = some (.int .i64 k) := (unhide HR2).cell 0
    have c1 : w2.cell? ⟨w.heap.size, 1, none⟩ = some (.int .i64 x0) := (unhide HR2).cell 1
    have c2 : w2.cell? ⟨w.heap.size, 2, none⟩ = some (.int .i64 x1) := (unhide HR2).cell 2
    have c3 : w2.cell? ⟨w.heap.size, 3, none⟩ = some (.int .i64 x2) := (unhide HR2).cell 3
    have c4 : w2.cell? ⟨w.heap.size, 4, none⟩ = some (.int .i64 x3) := (unhide HR2).cell 4
    have c5 : w2.cell? ⟨w.heap.size, 5, none⟩ = some (.int .i64 x4) := (unhide HR2).cell 5
    have c6 : w2.cell? ⟨w.heap.size, 6, none⟩ = some (.int .i64 x5) := (unhide HR2).cell 6
    have c7 : w2.cell? ⟨w.heap.size, 7, none⟩ = some (.int .i64 x6) := (unhide HR2).cell 7
    have c8 : w2.cell? ⟨w.heap.size, 8, none⟩ = some (.slice a n c) := (unhide HR2).cell 8
    go_wp2_with fail
    refine Calls.mono (unhide HP2) ?_
    rintro e w3 ⟨b3, hok, hno⟩
    have HB3 := hide ((unhide HB2).trans (b3.mono (unhide HB2).size))
    have HR3 := hide ((unhide HR2).below b3 (unhide HR2).lt)
    clear b3 HPU HP2 HR2 c0 c1 c2 c3 c4 c5 c6 c7 c8 HA2 HB2
    by_cases hM : MsgOk k (nsF x0 x1 x2 x3 x4 x5 x6) l
    · obtain ⟨v, rfl, o3⟩ := hok hM
      have HML : Hid ((msgL k x0 x1 x2 x3 x4 x5 x6 l).length ≤ 100000000) := hide (by
        have h := light_facts hM.2.2.2.2
        rw [msgL_len]
        have := h.2.2
        have := h.1
        omega)
      have HMB := hide (msg_back k x0 x1 x2 x3 x4 x5 x6 l hM)
      have HG3 := hide (unhide HGT w3 v (msgL k x0 x1 x2 x3 x4 x5 x6 l) (unhide HB3) (Byt.of_own o3) (msgL_8 k x0 x1 x2 x3 x4 x5 x6 l) (unhide HML))
      clear hok hno hM o3
      go_wp2_with fail
      refine Calls.mono (unhide HG3) ?_
      rintro r w4 ⟨b4, hgo, hgn⟩
      obtain ⟨a2, cb, hr, hp2⟩ := hgo (unhide HMB).1
      obtain ⟨_, m1, m2, m3, m4, m5, m6, m7, m8, m9⟩ := unhide HMB
      rw [m1] at hp2 hr
      rw [m2, m3, m4, m5, m6, m7, m8, m9, unhide HN] at hr
      unfold msgV at hr
      subst hr
      have HP4 := hide hp2
      have HB4 := hide ((unhide HB3).trans (b4.mono (unhide HB3).size))
      have HR4 := hide ((unhide HR3).below b4 (unhide HR3).lt)
      clear b4 hgo hgn hp2 m1 m2 m3 m4 m5 m6 m7 m8 m9 HG3 HMB HR3 HB3
      have b5 : Below w4.heap.size w4 (w4.alloc (.cells #[.int .i64 k, .int .i64 x0, .int .i64 x1, .int .i64 x2, .int .i64 x3, .int .i64 x4, .int .i64 x5, .int .i64 x6, .slice a2 n cb] 25)) := (Below.refl _ _).alloc (Nat.le_refl _) _
      have HR5 := hide ((unhide HR4).below b5 (unhide HR4).lt)
      have HD5 := hide (RowAt.new w4 25 [.int .i64 k, .int .i64 x0, .int .i64 x1, .int .i64 x2, .int .i64 x3, .int .i64 x4, .int .i64 x5, .int .i64 x6, .slice a2 n cb])
      have HB5 := hide ((unhide HB4).trans (b5.mono (unhide HB4).size))
      have HSA := hide (same_any k x0 x1 x2 x3 x4 x5 x6 a a2 l n c cb (w4.alloc (.cells #[.int .i64 k, .int .i64 x0, .int .i64 x1, .int .i64 x2, .int .i64 x3, .int .i64 x4, .int .i64 x5, .int .i64 x6, .slice a2 n cb] 25)) ((unhide HP).call (unhide HB5)) ((unhide HP4).call b5) (unhide HN) hc)
      unfold msgV at HSA
      clear b5 HB4 HR4 HP4
      have c0 : (w4.alloc (.cells #[.int .i64 k, .int .i64 x0, .int .i64 x1, .int .i64 x2, .int .i64 x3, .int .i64 x4, .int .i64 x5, .int .i64 x6, .slice a2 n cb] 25)).cell? ⟨w.heap.size, 0, none⟩ = some (.int .i64 k) := (unhide HR5).cell 0
      have c1 : (w4.alloc (.cells #[.int .i64 k, .int .i64 x0, .int .i64 x1, .int .i64 x2, .int .i64 x3, .int .i64 x4, .int .i64 x5, .int .i64 x6, .slice a2 n cb] 25)).cell? ⟨w.heap.size, 1, none⟩ = some (.int .i64 x0) := (unhide HR5).cell 1
      have c2 : (w4.alloc (.cells #[.int .i64 k, .int .i64 x0, .int .i64 x1, .int .i64 x2, .int .i64 x3, .int .i64 x4, .int .i64 x5, .int .i64 x6, .slice a2 n cb] 25)).cell? ⟨w.heap.size, 2, none⟩ = some (.int .i64 x1) := (unhide HR5).cell 2
      have c3 : (w4.alloc (.cells #[.int .i64 k, .int .i64 x0, .int .i64 x1, .int .i64 x2, .int .i64 x3, .int .i64 x4, .int .i64 x5, .int .i64 x6, .slice a2 n cb] 25)).cell? ⟨w.heap.size, 3, none⟩ = some (.int .i64 x2) := (unhide HR5).cell 3
      have c4 : (w4.alloc (.cells #[.int .i64 k, .int .i64 x0, .int .i64 x1, .int .i64 x2, .int .i64 x3, .int .i64 x4, .int .i64 x5, .int .i64 x6, .slice a2 n cb] 25)).cell? ⟨w.heap.size, 4, none⟩ = some (.int .i64 x3) := (unhide HR5).cell 4
      have c5 : (w4.alloc (.cells #[.int .i64 k, .int .i64 x0, .int .i64 x1, .int .i64 x2, .int .i64 x3, .int .i64 x4, .int .i64 x5, .int .i64 x6, .slice a2 n cb] 25)).cell? ⟨w.heap.size, 5, none⟩ = some (.int .i64 x4) := (unhide HR5).cell 5
      have c6 : (w4.alloc (.cells #[.int .i64 k, .int .i64 x0, .int .i64 x1, .int .i64 x2, .int .i64 x3, .int .i64 x4, .int .i64 x5, .int .i64 x6, .slice a2 n cb] 25)).cell? ⟨w.heap.size, 6, none⟩ = some (.int .i64 x5) := (unhide HR5).cell 6
      have c7 : (w4.alloc (.cells #[.int .i64 k, .int .i64 x0, .int .i64 x1, .int .i64 x2, .int .i64 x3, .int .i64 x4, .int .i64 x5, .int .i64 x6, .slice a2 n cb] 25)).cell? ⟨w.heap.size, 7, none⟩ = some (.int .i64 x6) := (unhide HR5).cell 7
      have c8 : (w4.alloc (.cells #[.int .i64 k, .int .i64 x0, .int .i64 x1, .int .i64 x2, .int .i64 x3, .int .i64 x4, .int .i64 x5, .int .i64 x6, .slice a2 n cb] 25)).cell? ⟨w.heap.size, 8, none⟩ = some (.slice a n c) := (unhide HR5).cell 8
      have d0 : (w4.alloc (.cells #[.int .i64 k, .int .i64 x0, .int .i64 x1, .int .i64 x2, .int .i64 x3, .int .i64 x4, .int .i64 x5, .int .i64 x6, .slice a2 n cb] 25)).cell? ⟨w4.heap.size, 0, none⟩ = some (.int .i64 k) := (unhide HD5).cell 0
      have d1 : (w4.alloc (.cells #[.int .i64 k, .int .i64 x0, .int .i64 x1, .int .i64 x2, .int .i64 x3, .int .i64 x4, .int .i64 x5, .int .i64 x6, .slice a2 n cb] 25)).cell? ⟨w4.heap.size, 1, none⟩ = some (.int .i64 x0) := (unhide HD5).cell 1
      have d2 : (w4.alloc (.cells #[.int .i64 k, .int .i64 x0, .int .i64 x1, .int .i64 x2, .int .i64 x3, .int .i64 x4, .int .i64 x5, .int .i64 x6, .slice a2 n cb] 25)).cell? ⟨w4.heap.size, 2, none⟩ = some (.int .i64 x1) := (unhide HD5).cell 2
      have d3 : (w4.alloc (.cells #[.int .i64 k, .int .i64 x0, .int .i64 x1, .int .i64 x2, .int .i64 x3, .int .i64 x4, .int .i64 x5, .int .i64 x6, .slice a2 n cb] 25)).cell? ⟨w4.heap.size, 3, none⟩ = some (.int .i64 x2) := (unhide HD5).cell 3
      have d4 : (w4.alloc (.cells #[.int .i64 k, .int .i64 x0, .int .i64 x1, .int .i64 x2, .int .i64 x3, .int .i64 x4, .int .i64 x5, .int .i64 x6, .slice a2 n cb] 25)).cell? ⟨w4.heap.size, 4, none⟩ = some (.int .i64 x3) := (unhide HD5).cell 4
      have d5 : (w4.alloc (.cells #[.int .i64 k, .int .i64 x0, .int .i64 x1, .int .i64 x2, .int .i64 x3, .int .i64 x4, .int .i64 x5, .int .i64 x6, .slice a2 n cb] 25)).cell? ⟨w4.heap.size, 5, none⟩ = some (.int .i64 x4) := (unhide HD5).cell 5
      have d6 : (w4.alloc (.cells #[.int .i64 k, .int .i64 x0, .int .i64 x1, .int .i64 x2, .int .i64 x3, .int .i64 x4, .int .i64 x5, .int .i64 x6, .slice a2 n cb] 25)).cell? ⟨w4.heap.size, 6, none⟩ = some (.int .i64 x5) := (unhide HD5).cell 6
      have d7 : (w4.alloc (.cells #[.int .i64 k, .int .i64 x0, .int .i64 x1, .int .i64 x2, .int .i64 x3, .int .i64 x4, .int .i64 x5, .int .i64 x6, .slice a2 n cb] 25)).cell? ⟨w4.heap.size, 7, none⟩ = some (.int .i64 x6) := (unhide HD5).cell 7
      have d8 : (w4.alloc (.cells #[.int .i64 k, .int .i64 x0, .int .i64 x1, .int .i64 x2, .int .i64 x3, .int .i64 x4, .int .i64 x5, .int .i64 x6, .slice a2 n cb] 25)).cell? ⟨w4.heap.size, 8, none⟩ = some (.slice a2 n cb) := (unhide HD5).cell 8
      go_wp2_with fail
      generalize w4.alloc (.cells #[.int .i64 k, .int .i64 x0, .int .i64 x1, .int .i64 x2, .int .i64 x3, .int .i64 x4, .int .i64 x5, .int .i64 x6, .slice a2 n cb] 25) = w5 at *
      refine Calls.mono (unhide HSA) ?_
      rintro e w6 ⟨rfl, b6⟩
      have HB6 := hide ((unhide HB5).trans (b6.mono (unhide HB5).size))
      clear b6 c0 c1 c2 c3 c4 c5 c6 c7 c8 d0 d1 d2 d3 d4 d5 d6 d7 d8 HB5 HSA HR5 HD5
      go_wp2_with fail
      have HY6 := hide ((unhide HB).call (unhide HB6))
      refine Calls.mono (unhide HGT w6 _ b (unhide HB6) (unhide HY6) (unhide HB8) (by rw [unhide HNB]; omega)) ?_
      rintro r w7 ⟨b7, hgo, hgn⟩
      have HB7 := hide ((unhide HB6).trans (b7.mono (unhide HB6).size))
      clear b7 HB6 HY6
      by_cases hG : GetOk b
      · obtain ⟨a5, c5, rfl, hp5⟩ := hgo hG
        have HP7 := hide hp5
        have HGP := hide (get_put (unhide HB8) hG)
        have HMO := hide hG.2
        unfold msgV
        obtain ⟨en, hen⟩ : ∃ z, (gEd b).length = z := ⟨_, rfl⟩
        rw [hen]
        have HEN := hide hen
        obtain ⟨y0, hy0⟩ : ∃ z, nVal b 0 = z := ⟨_, rfl⟩
        obtain ⟨y1, hy1⟩ : ∃ z, nVal b 1 = z := ⟨_, rfl⟩
        obtain ⟨y2, hy2⟩ : ∃ z, nVal b 2 = z := ⟨_, rfl⟩
        obtain ⟨y3, hy3⟩ : ∃ z, nVal b 3 = z := ⟨_, rfl⟩
        obtain ⟨y4, hy4⟩ : ∃ z, nVal b 4 = z := ⟨_, rfl⟩
        obtain ⟨y5, hy5⟩ : ∃ z, nVal b 5 = z := ⟨_, rfl⟩
        obtain ⟨y6, hy6⟩ : ∃ z, nVal b 6 = z := ⟨_, rfl⟩
        obtain ⟨y7, hy7⟩ : ∃ z, nVal b 7 = z := ⟨_, rfl⟩
        simp only [hy0, hy1, hy2, hy3, hy4, hy5, hy6, hy7] at HGP HMO HP9 ⊢
        clear hy0 hy1 hy2 hy3 hy4 hy5 hy6 hy7
        have b8 : Below w7.heap.size w7 (w7.alloc (.cells #[.int .i64 y0, .int .i64 y1, .int .i64 y2, .int .i64 y3, .int .i64 y4, .int .i64 y5, .int .i64 y6, .int .i64 y7, .slice a5 en c5] 25)) := (Below.refl _ _).alloc (Nat.le_refl _) _
        have HD8 := hide (RowAt.new w7 25 [.int .i64 y0, .int .i64 y1, .int .i64 y2, .int .i64 y3, .int .i64 y4, .int .i64 y5, .int .i64 y6, .int .i64 y7, .slice a5 en c5])
        have HB8' := hide ((unhide HB7).trans (b8.mono (unhide HB7).size))
        have HPQ := hide (unhide HP9 (w7.alloc (.cells #[.int .i64 y0, .int .i64 y1, .int .i64 y2, .int .i64 y3, .int .i64 y4, .int .i64 y5, .int .i64 y6, .int .i64 y7, .slice a5 en c5] 25)) a5 c5 (unhide HB8') (by omega) ((unhide HP7).call b8))
        rw [unhide HEN] at HPQ
        clear hp5 hgo hgn hG hen b8 HB7 HP7
        have d0 : (w7.alloc (.cells #[.int .i64 y0, .int .i64 y1, .int .i64 y2, .int .i64 y3, .int .i64 y4, .int .i64 y5, .int .i64 y6, .int .i64 y7, .slice a5 en c5] 25)).cell? ⟨w7.heap.size, 0, none⟩ = some (.int .i64 y0) := (unhide HD8).cell 0
        have d1 : (w7.alloc (.cells #[.int .i64 y0, .int .i64 y1, .int .i64 y2, .int .i64 y3, .int .i64 y4, .int .i64 y5, .int .i64 y6, .int .i64 y7, .slice a5 en c5] 25)).cell? ⟨w7.heap.size, 1, none⟩ = some (.int .i64 y1) := (unhide HD8).cell 1
        have d2 : (w7.alloc (.cells #[.int .i64 y0, .int .i64 y1, .int .i64 y2, .int .i64 y3, .int .i64 y4, .int .i64 y5, .int .i64 y6, .int .i64 y7, .slice a5 en c5] 25)).cell? ⟨w7.heap.size, 2, none⟩ = some (.int .i64 y2) := (unhide HD8).cell 2
        have d3 : (w7.alloc (.cells #[.int .i64 y0, .int .i64 y1, .int .i64 y2, .int .i64 y3, .int .i64 y4, .int .i64 y5, .int .i64 y6, .int .i64 y7, .slice a5 en c5] 25)).cell? ⟨w7.heap.size, 3, none⟩ = some (.int .i64 y3) := (unhide HD8).cell 3
        have d4 : (w7.alloc (.cells #[.int .i64 y0, .int .i64 y1, .int .i64 y2, .int .i64 y3, .int .i64 y4, .int .i64 y5, .int .i64 y6, .int .i64 y7, .slice a5 en c5] 25)).cell? ⟨w7.heap.size, 4, none⟩ = some (.int .i64 y4) := (unhide HD8).cell 4
        have d5 : (w7.alloc (.cells #[.int .i64 y0, .int .i64 y1, .int .i64 y2, .int .i64 y3, .int .i64 y4, .int .i64 y5, .int .i64 y6, .int .i64 y7, .slice a5 en c5] 25)).cell? ⟨w7.heap.size, 5, none⟩ = some (.int .i64 y5) := (unhide HD8).cell 5
        have d6 : (w7.alloc (.cells #[.int .i64 y0, .int .i64 y1, .int .i64 y2, .int .i64 y3, .int .i64 y4, .int .i64 y5, .int .i64 y6, .int .i64 y7, .slice a5 en c5] 25)).cell? ⟨w7.heap.size, 6, none⟩ = some (.int .i64 y6) := (unhide HD8).cell 6
        have d7 : (w7.alloc (.cells #[.int .i64 y0, .int .i64 y1, .int .i64 y2, .int .i64 y3, .int .i64 y4, .int .i64 y5, .int .i64 y6, .int .i64 y7, .slice a5 en c5] 25)).cell? ⟨w7.heap.size, 7, none⟩ = some (.int .i64 y7) := (unhide HD8).cell 7
        have d8 : (w7.alloc (.cells #[.int .i64 y0, .int .i64 y1, .int .i64 y2, .int .i64 y3, .int .i64 y4, .int .i64 y5, .int .i64 y6, .int .i64 y7, .slice a5 en c5] 25)).cell? ⟨w7.heap.size, 8, none⟩ = some (.slice a5 en c5) := (unhide HD8).cell 8
        go_wp2_with fail
        generalize w7.alloc (.cells #[.int .i64 y0, .int .i64 y1, .int .i64 y2, .int .i64 y3, .int .i64 y4, .int .i64 y5, .int .i64 y6, .int .i64 y7, .slice a5 en c5] 25) = w8 at *
        refine Calls.mono (unhide HPQ) ?_
        rintro e w9 ⟨b9, hok9, hno9⟩
        obtain ⟨v9, rfl, o9⟩ := hok9 (unhide HMO)
        have HB9 := hide ((unhide HB8').trans (b9.mono (unhide HB8').size))
        have y9 := Byt.of_own o9
        rw [unhide HGP] at y9
        obtain ⟨a9, c9, rfl⟩ := byt_shape y9
        have HEQ := hide (equal_same _ _ b w9 y9 ((unhide HB).call (unhide HB9)) (unhide HB8))
        rw [unhide HNB] at HEQ ⊢
        have HA9 := hide (unhide HAW w9 (unhide HB9))
        clear b9 hok9 hno9 o9 y9 d0 d1 d2 d3 d4 d5 d6 d7 d8 HPQ HD8 HB8'
        go_wp2_with fail
        refine Calls.mono (unhide HEQ) ?_
        rintro e wq ⟨rfl, rfl⟩
        go_wp2_with fail
        refine Calls.mono (unhide HA9) ?_
        rintro e w10 ⟨rfl, b10⟩
        have HB10 := hide ((unhide HB9).trans (b10.mono (unhide HB9).size))
        clear b10
        go_wp2_with fail
        go_ret
        exact ⟨rfl, unhide HB10⟩
      · obtain rfl := hgn hG
        have b8 : Below w7.heap.size w7 (w7.alloc (.cells #[.int .i64 0, .int .i64 0, .int .i64 0, .int .i64 0, .int .i64 0, .int .i64 0, .int .i64 0, .int .i64 0, .slice none 0 0] 25)) := (Below.refl _ _).alloc (Nat.le_refl _) _
        have HB8' := hide ((unhide HB7).trans (b8.mono (unhide HB7).size))
        have HA8 := hide (unhide HAW _ (unhide HB8'))
        unfold msgV
        clear b8 hgo hgn hG HB7
        go_wp2_with fail
        generalize w7.alloc (.cells #[.int .i64 0, .int .i64 0, .int .i64 0, .int .i64 0, .int .i64 0, .int .i64 0, .int .i64 0, .int .i64 0, .slice none 0 0] 25) = w8 at *
        refine Calls.mono (unhide HA8) ?_
        rintro e w10 ⟨rfl, b10⟩
        have HB10 := hide ((unhide HB8').trans (b10.mono (unhide HB8').size))
        clear b10
        go_wp2_with fail
        go_ret
        exact ⟨rfl, unhide HB10⟩
    · obtain rfl := hno hM
      clear hok hno hM
      have HB6 := HB3
      clear HB3
      have hw3 : ∃ w6, w3 = w6 := ⟨_, rfl⟩
      obtain ⟨w6, hw6⟩ := hw3
      subst hw6
      rename World => w6
      go_wp2_with fail
      have HY6 := hide ((unhide HB).call (unhide HB6))
      refine Calls.mono (unhide HGT w6 _ b (unhide HB6) (unhide HY6) (unhide HB8) (by rw [unhide HNB]; omega)) ?_
      rintro r w7 ⟨b7, hgo, hgn⟩
      have HB7 := hide ((unhide HB6).trans (b7.mono (unhide HB6).size))
      clear b7 HB6 HY6
      by_cases hG : GetOk b
      · obtain ⟨a5, c5, rfl, hp5⟩ := hgo hG
        have HP7 := hide hp5
        have HGP := hide (get_put (unhide HB8) hG)
        have HMO := hide hG.2
        unfold msgV
        obtain ⟨en, hen⟩ : ∃ z, (gEd b).length = z := ⟨_, rfl⟩
        rw [hen]
        have HEN := hide hen
        obtain ⟨y0, hy0⟩ : ∃ z, nVal b 0 = z := ⟨_, rfl⟩
        obtain ⟨y1, hy1⟩ : ∃ z, nVal b 1 = z := ⟨_, rfl⟩
        obtain ⟨y2, hy2⟩ : ∃ z, nVal b 2 = z := ⟨_, rfl⟩
        obtain ⟨y3, hy3⟩ : ∃ z, nVal b 3 = z := ⟨_, rfl⟩
        obtain ⟨y4, hy4⟩ : ∃ z, nVal b 4 = z := ⟨_, rfl⟩
        obtain ⟨y5, hy5⟩ : ∃ z, nVal b 5 = z := ⟨_, rfl⟩
        obtain ⟨y6, hy6⟩ : ∃ z, nVal b 6 = z := ⟨_, rfl⟩
        obtain ⟨y7, hy7⟩ : ∃ z, nVal b 7 = z := ⟨_, rfl⟩
        simp only [hy0, hy1, hy2, hy3, hy4, hy5, hy6, hy7] at HGP HMO HP9 ⊢
        clear hy0 hy1 hy2 hy3 hy4 hy5 hy6 hy7
        have b8 : Below w7.heap.size w7 (w7.alloc (.cells #[.int .i64 y0, .int .i64 y1, .int .i64 y2, .int .i64 y3, .int .i64 y4, .int .i64 y5, .int .i64 y6, .int .i64 y7, .slice a5 en c5] 25)) := (Below.refl _ _).alloc (Nat.le_refl _) _
        have HD8 := hide (RowAt.new w7 25 [.int .i64 y0, .int .i64 y1, .int .i64 y2, .int .i64 y3, .int .i64 y4, .int .i64 y5, .int .i64 y6, .int .i64 y7, .slice a5 en c5])
        have HB8' := hide ((unhide HB7).trans (b8.mono (unhide HB7).size))
        have HPQ := hide (unhide HP9 (w7.alloc (.cells #[.int .i64 y0, .int .i64 y1, .int .i64 y2, .int .i64 y3, .int .i64 y4, .int .i64 y5, .int .i64 y6, .int .i64 y7, .slice a5 en c5] 25)) a5 c5 (unhide HB8') (by omega) ((unhide HP7).call b8))
        rw [unhide HEN] at HPQ
        clear hp5 hgo hgn hG hen b8 HB7 HP7
        have d0 : (w7.alloc (.cells #[.int .i64 y0, .int .i64 y1, .int .i64 y2, .int .i64 y3, .int .i64 y4, .int .i64 y5, .int .i64 y6, .int .i64 y7, .slice a5 en c5] 25)).cell? ⟨w7.heap.size, 0, none⟩ = some (.int .i64 y0) := (unhide HD8).cell 0
        have d1 : (w7.alloc (.cells #[.int .i64 y0, .int .i64 y1, .int .i64 y2, .int .i64 y3, .int .i64 y4, .int .i64 y5, .int .i64 y6, .int .i64 y7, .slice a5 en c5] 25)).cell? ⟨w7.heap.size, 1, none⟩ = some (.int .i64 y1) := (unhide HD8).cell 1
        have d2 : (w7.alloc (.cells #[.int .i64 y0, .int .i64 y1, .int .i64 y2, .int .i64 y3, .int .i64 y4, .int .i64 y5, .int .i64 y6, .int .i64 y7, .slice a5 en c5] 25)).cell? ⟨w7.heap.size, 2, none⟩ = some (.int .i64 y2) := (unhide HD8).cell 2
        have d3 : (w7.alloc (.cells #[.int .i64 y0, .int .i64 y1, .int .i64 y2, .int .i64 y3, .int .i64 y4, .int .i64 y5, .int .i64 y6, .int .i64 y7, .slice a5 en c5] 25)).cell? ⟨w7.heap.size, 3, none⟩ = some (.int .i64 y3) := (unhide HD8).cell 3
        have d4 : (w7.alloc (.cells #[.int .i64 y0, .int .i64 y1, .int .i64 y2, .int .i64 y3, .int .i64 y4, .int .i64 y5, .int .i64 y6, .int .i64 y7, .slice a5 en c5] 25)).cell? ⟨w7.heap.size, 4, none⟩ = some (.int .i64 y4) := (unhide HD8).cell 4
        have d5 : (w7.alloc (.cells #[.int .i64 y0, .int .i64 y1, .int .i64 y2, .int .i64 y3, .int .i64 y4, .int .i64 y5, .int .i64 y6, .int .i64 y7, .slice a5 en c5] 25)).cell? ⟨w7.heap.size, 5, none⟩ = some (.int .i64 y5) := (unhide HD8).cell 5
        have d6 : (w7.alloc (.cells #[.int .i64 y0, .int .i64 y1, .int .i64 y2, .int .i64 y3, .int .i64 y4, .int .i64 y5, .int .i64 y6, .int .i64 y7, .slice a5 en c5] 25)).cell? ⟨w7.heap.size, 6, none⟩ = some (.int .i64 y6) := (unhide HD8).cell 6
        have d7 : (w7.alloc (.cells #[.int .i64 y0, .int .i64 y1, .int .i64 y2, .int .i64 y3, .int .i64 y4, .int .i64 y5, .int .i64 y6, .int .i64 y7, .slice a5 en c5] 25)).cell? ⟨w7.heap.size, 7, none⟩ = some (.int .i64 y7) := (unhide HD8).cell 7
        have d8 : (w7.alloc (.cells #[.int .i64 y0, .int .i64 y1, .int .i64 y2, .int .i64 y3, .int .i64 y4, .int .i64 y5, .int .i64 y6, .int .i64 y7, .slice a5 en c5] 25)).cell? ⟨w7.heap.size, 8, none⟩ = some (.slice a5 en c5) := (unhide HD8).cell 8
        go_wp2_with fail
        generalize w7.alloc (.cells #[.int .i64 y0, .int .i64 y1, .int .i64 y2, .int .i64 y3, .int .i64 y4, .int .i64 y5, .int .i64 y6, .int .i64 y7, .slice a5 en c5] 25) = w8 at *
        refine Calls.mono (unhide HPQ) ?_
        rintro e w9 ⟨b9, hok9, hno9⟩
        obtain ⟨v9, rfl, o9⟩ := hok9 (unhide HMO)
        have HB9 := hide ((unhide HB8').trans (b9.mono (unhide HB8').size))
        have y9 := Byt.of_own o9
        rw [unhide HGP] at y9
        obtain ⟨a9, c9, rfl⟩ := byt_shape y9
        have HEQ := hide (equal_same _ _ b w9 y9 ((unhide HB).call (unhide HB9)) (unhide HB8))
        rw [unhide HNB] at HEQ ⊢
        have HA9 := hide (unhide HAW w9 (unhide HB9))
        clear b9 hok9 hno9 o9 y9 d0 d1 d2 d3 d4 d5 d6 d7 d8 HPQ HD8 HB8'
        go_wp2_with fail
        refine Calls.mono (unhide HEQ) ?_
        rintro e wq ⟨rfl, rfl⟩
        go_wp2_with fail
        refine Calls.mono (unhide HA9) ?_
        rintro e w10 ⟨rfl, b10⟩
        have HB10 := hide ((unhide HB9).trans (b10.mono (unhide HB9).size))
        clear b10
        go_wp2_with fail
        go_ret
        exact ⟨rfl, unhide HB10⟩
      · obtain rfl := hgn hG
        have b8 : Below w7.heap.size w7 (w7.alloc (.cells #[.int .i64 0, .int .i64 0, .int .i64 0, .int .i64 0, .int .i64 0, .int .i64 0, .int .i64 0, .int .i64 0, .slice none 0 0] 25)) := (Below.refl _ _).alloc (Nat.le_refl _) _
        have HB8' := hide ((unhide HB7).trans (b8.mono (unhide HB7).size))
        have HA8 := hide (unhide HAW _ (unhide HB8'))
        unfold msgV
        clear b8 hgo hgn hG HB7
        go_wp2_with fail
        generalize w7.alloc (.cells #[.int .i64 0, .int .i64 0, .int .i64 0, .int .i64 0, .int .i64 0, .int .i64 0, .int .i64 0, .int .i64 0, .slice none 0 0] 25) = w8 at *
        refine Calls.mono (unhide HA8) ?_
        rintro e w10 ⟨rfl, b10⟩
        have HB10 := hide ((unhide HB8').trans (b10.mono (unhide HB8').size))
        clear b10
        go_wp2_with fail
        go_ret
        exact ⟨rfl, unhide HB10⟩
end Go.Proofs.YtbnfilhilgjnfaaDoor
