/- Whether a message may be gone through; and FrameSmall's walk. -/
import Derived.Test.YtbnfilhilgjnfaaDoorGPut
import Derived.Test.YtbnfilhilgjnfaaDoorFAl5
namespace Go.Proofs.YtbnfilhilgjnfaaDoor
set_option linter.unusedVariables false
set_option linter.unusedSimpArgs false
open Go.ChangeShapes Go.WideShapes Go.ChangeAt Go.RowKit Go.Joins

def LtR (n : Nat) (w : World) (e : Ending) (w' : World) : Prop := (∃ b, e = .returned (.bool b) ∧ (b = true → n ≤ 500)) ∧ Below w.heap.size w w'
set_option maxRecDepth 100000 in
set_option maxHeartbeats 8000000 in
theorem llight_any (k x0 x1 x2 x3 x4 x5 x6 : Int) (a : Option Addr) (l : List Ed.Pt) (c : Nat) (w : World) (hp : Ed.PtsAt w a l) (hc : l.length ≤ maxLen) :
    Calls Tryd.prog 8 #[msgV k x0 x1 x2 x3 x4 x5 x6 (.slice a l.length c)] w fun e w' => LtR l.length w e w' := by
  obtain ⟨n, hn⟩ : ∃ n, l.length = n := ⟨_, rfl⟩
  rw [hn] at hc ⊢
  have HN := hide hn
  have HP := hide hp
  have nI : (n : Int) ≤ 9223372036854775807 := by unfold maxLen at hc; omega
  clear hp hn
  have b1 : Below w.heap.size w (w.alloc (.cells #[.int .i64 k, .int .i64 x0, .int .i64 x1, .int .i64 x2, .int .i64 x3, .int .i64 x4, .int .i64 x5, .int .i64 x6, .slice a n c] 25)) := (Below.refl _ _).alloc (Nat.le_refl _) _
  have HR := hide (RowAt.new w 25 [.int .i64 k, .int .i64 x0, .int .i64 x1, .int .i64 x2, .int .i64 x3, .int .i64 x4, .int .i64 x5, .int .i64 x6, .slice a n c])
  have HB1 := hide b1
  clear b1
  unfold msgV
  have c8 : (w.alloc (.cells #[.int .i64 k, .int .i64 x0, .int .i64 x1, .int .i64 x2, .int .i64 x3, .int .i64 x4, .int .i64 x5, .int .i64 x6, .slice a n c] 25)).cell? ⟨w.heap.size, 8, none⟩ = some (.slice a n c) := (unhide HR).cell 8
  go_enter Tryd.func8, Tryd.ntmps8
  go_wp2_with fail
  generalize w.alloc (.cells #[.int .i64 k, .int .i64 x0, .int .i64 x1, .int .i64 x2, .int .i64 x3, .int .i64 x4, .int .i64 x5, .int .i64 x6, .slice a n c] 25) = w1 at *
  go_loopw [3, 4] (fun mv i wr => ∃ m j : Nat, mv = .int .i64 (m : Int) ∧ i = .int .i64 (j : Int) ∧ j ≤ n ∧ j ≤ 501 ∧ m ≤ 16384 * j ∧ w1 = wr) (fun _ i _ => ((n : Int) - intOf i).toNat)
  case atStart => exact ⟨0, 0, rfl, rfl, by omega, by omega, by omega, rfl⟩
  case round =>
    obtain ⟨m, j, rfl, rfl, hj, hj5, hm, rfl⟩ := hrel
    have mI : (m : Int) ≤ 16384 * 501 := by omega
    by_cases h1 : j < n
    · have h1z : (j : Int) < (n : Int) := by omega
      have h1d : decide ((j : Int) < (n : Int)) = true := by simpa using h1z
      by_cases h2 : j ≤ 500
      · have h2z : (j : Int) ≤ 500 := by omega
        have h2d : decide ((j : Int) ≤ 500) = true := by simpa using h2z
        by_cases h3 : m ≤ 16384
        · have h3z : (m : Int) ≤ 16384 := by omega
          have h3d : decide ((m : Int) ≤ 16384) = true := by simpa using h3z
          obtain ⟨p, hpk⟩ : ∃ p, l[j]? = some p := ⟨_, List.getElem?_eq_getElem (by have := unhide HN; omega)⟩
          obtain ⟨b, off, rfl, e0, e1, e2⟩ := (unhide HP).at_ (unhide HB1) hpk
          obtain ⟨q, hq⟩ : ∃ q : Nat, min (p.text.size : Int) 16384 = (q : Int) := ⟨(min (p.text.size : Int) 16384).toNat, by omega⟩
          have hq2 : q ≤ 16384 := by omega
          have hw : wrap64 ((m : Int) + (q : Int)) = (m : Int) + (q : Int) := by unfold wrap64; omega
          clear hpk e0 e1
          go_wp2_with fail
          exact ⟨⟨m + q, j + 1, by simp, by simp, by omega, by omega, by omega, by first | trivial | rfl⟩, by simp [intOf]; omega⟩
        · have h3z : ¬ (m : Int) ≤ 16384 := by omega
          have h3d : decide ((m : Int) ≤ 16384) = false := by simpa using h3z
          have n5 : n ≤ 500 ∨ ¬ n ≤ 500 := by omega
          rcases n5 with n5 | n5
          · have n5z : (n : Int) ≤ 500 := by omega
            have n5d : decide ((n : Int) ≤ 500) = true := by simpa using n5z
            have HE := hide n5
            go_wp2_with fail
            go_ret
            exact ⟨⟨_, rfl, fun _ => by have := unhide HE; omega⟩, unhide HB1⟩
          · have n5z : ¬ (n : Int) ≤ 500 := by omega
            have n5d : decide ((n : Int) ≤ 500) = false := by simpa using n5z
            go_wp2_with fail
            go_ret
            exact ⟨⟨_, rfl, fun h => by cases h⟩, unhide HB1⟩
      · have h2z : ¬ (j : Int) ≤ 500 := by omega
        have h2d : decide ((j : Int) ≤ 500) = false := by simpa using h2z
        have n5z : ¬ (n : Int) ≤ 500 := by omega
        have n5d : decide ((n : Int) ≤ 500) = false := by simpa using n5z
        go_wp2_with fail
        go_ret
        exact ⟨⟨_, rfl, fun h => by cases h⟩, unhide HB1⟩
    · obtain rfl : n = j := by omega
      have h1z : ¬ (n : Int) < (n : Int) := by omega
      have n5 : n ≤ 500 ∨ ¬ n ≤ 500 := by omega
      rcases n5 with n5 | n5
      · have n5z : (n : Int) ≤ 500 := by omega
        have n5d : decide ((n : Int) ≤ 500) = true := by simpa using n5z
        have HE := hide n5
        go_wp2_with fail
        go_ret
        exact ⟨⟨_, rfl, fun _ => by have := unhide HE; omega⟩, unhide HB1⟩
      · have n5z : ¬ (n : Int) ≤ 500 := by omega
        have n5d : decide ((n : Int) ≤ 500) = false := by simpa using n5z
        go_wp2_with fail
        go_ret
        exact ⟨⟨_, rfl, fun h => by cases h⟩, unhide HB1⟩

/-- what lies in the world: all tables -/
def GLay (w : World) : Prop := FLay w ∧ MTab w ∧ Ed.UT w
theorem GLay.below {w w' : World} (h : GLay w) (hb : Below w.heap.size w w') : GLay w' := ⟨h.1.below hb, Tab.below h.2.1 hb h.2.1.lt, h.2.2.call hb⟩
set_option maxRecDepth 100000 in
set_option maxHeartbeats 8000000 in
theorem small_law (k x0 x1 x2 x3 x4 x5 x6 : Int) (a : Option Addr) (l : List Ed.Pt) (c : Nat) (w : World) (hT : GLay w) (hp : Ed.PtsAt w a l) (hc : l.length ≤ maxLen) (hs : ∀ p ∈ l, p.text.size ≤ 281474976710656) :
    Calls Tryd.prog 7 #[msgV k x0 x1 x2 x3 x4 x5 x6 (.slice a l.length c)] w fun e w' => e = .returned (.bool true) ∧ Below w.heap.size w w' := by
  have HLT : Hid (∀ w1, Below w.heap.size w w1 → Calls Tryd.prog 8 #[msgV k x0 x1 x2 x3 x4 x5 x6 (.slice a l.length c)] w1 fun e w' => LtR l.length w1 e w') := hide (fun w1 hb => llight_any k x0 x1 x2 x3 x4 x5 x6 a l c w1 (hp.call hb) hc)
  have HPU : Hid (∀ w1, Below w.heap.size w w1 → l.length ≤ 500 → Calls Tryd.prog 14 #[msgV k x0 x1 x2 x3 x4 x5 x6 (.slice a l.length c)] w1 fun e w' => PuR k x0 x1 x2 x3 x4 x5 x6 l w1 e w') := hide (fun w1 hb h5 => fput_any k x0 x1 x2 x3 x4 x5 x6 a l c w1 (hT.below hb).1.2 (hT.below hb).2.1 (hT.below hb).2.2 (hp.call hb) (by omega) hs)
  obtain ⟨n, hn⟩ : ∃ n, l.length = n := ⟨_, rfl⟩
  rw [hn] at HLT HPU hc ⊢
  have HN := hide hn
  have HT := hide hT
  clear hp hn hs hT
  have b1 : Below w.heap.size w (w.alloc (.cells #[.int .i64 k, .int .i64 x0, .int .i64 x1, .int .i64 x2, .int .i64 x3, .int .i64 x4, .int .i64 x5, .int .i64 x6, .slice a n c] 25)) := (Below.refl _ _).alloc (Nat.le_refl _) _
  have HR := hide (RowAt.new w 25 [.int .i64 k, .int .i64 x0, .int .i64 x1, .int .i64 x2, .int .i64 x3, .int .i64 x4, .int .i64 x5, .int .i64 x6, .slice a n c])
  have HL1 := hide (unhide HLT _ b1)
  have HB1 := hide b1
  clear b1 HLT
  unfold msgV at *
  have c0 : (w.alloc (.cells #[.int .i64 k, .int .i64 x0, .int .i64 x1, .int .i64 x2, .int .i64 x3, .int .i64 x4, .int .i64 x5, .int .i64 x6, .slice a n c] 25)).cell? ⟨w.heap.size, 0, none⟩ = some (.int .i64 k) := (unhide HR).cell 0
  have c1 : (w.alloc (.cells #[.int .i64 k, .int .i64 x0, .int .i64 x1, .int .i64 x2, .int .i64 x3, .int .i64 x4, .int .i64 x5, .int .i64 x6, .slice a n c] 25)).cell? ⟨w.heap.size, 1, none⟩ = some (.int .i64 x0) := (unhide HR).cell 1
  have c2 : (w.alloc (.cells #[.int .i64 k, .int .i64 x0, .int .i64 x1, .int .i64 x2, .int .i64 x3, .int .i64 x4, .int .i64 x5, .int .i64 x6, .slice a n c] 25)).cell? ⟨w.heap.size, 2, none⟩ = some (.int .i64 x1) := (unhide HR).cell 2
  have c3 : (w.alloc (.cells #[.int .i64 k, .int .i64 x0, .int .i64 x1, .int .i64 x2, .int .i64 x3, .int .i64 x4, .int .i64 x5, .int .i64 x6, .slice a n c] 25)).cell? ⟨w.heap.size, 3, none⟩ = some (.int .i64 x2) := (unhide HR).cell 3
  have c4 : (w.alloc (.cells #[.int .i64 k, .int .i64 x0, .int .i64 x1, .int .i64 x2, .int .i64 x3, .int .i64 x4, .int .i64 x5, .int .i64 x6, .slice a n c] 25)).cell? ⟨w.heap.size, 4, none⟩ = some (.int .i64 x3) := (unhide HR).cell 4
  have c5 : (w.alloc (.cells #[.int .i64 k, .int .i64 x0, .int .i64 x1, .int .i64 x2, .int .i64 x3, .int .i64 x4, .int .i64 x5, .int .i64 x6, .slice a n c] 25)).cell? ⟨w.heap.size, 5, none⟩ = some (.int .i64 x4) := (unhide HR).cell 5
  have c6 : (w.alloc (.cells #[.int .i64 k, .int .i64 x0, .int .i64 x1, .int .i64 x2, .int .i64 x3, .int .i64 x4, .int .i64 x5, .int .i64 x6, .slice a n c] 25)).cell? ⟨w.heap.size, 6, none⟩ = some (.int .i64 x5) := (unhide HR).cell 6
  have c7 : (w.alloc (.cells #[.int .i64 k, .int .i64 x0, .int .i64 x1, .int .i64 x2, .int .i64 x3, .int .i64 x4, .int .i64 x5, .int .i64 x6, .slice a n c] 25)).cell? ⟨w.heap.size, 7, none⟩ = some (.int .i64 x6) := (unhide HR).cell 7
  have c8 : (w.alloc (.cells #[.int .i64 k, .int .i64 x0, .int .i64 x1, .int .i64 x2, .int .i64 x3, .int .i64 x4, .int .i64 x5, .int .i64 x6, .slice a n c] 25)).cell? ⟨w.heap.size, 8, none⟩ = some (.slice a n c) := (unhide HR).cell 8
  go_enter Tryd.func7, Tryd.ntmps7
  go_wp2_with fail
  generalize w.alloc (.cells #[.int .i64 k, .int .i64 x0, .int .i64 x1, .int .i64 x2, .int .i64 x3, .int .i64 x4, .int .i64 x5, .int .i64 x6, .slice a n c] 25) = w1 at *
  refine Calls.mono (unhide HL1) ?_
  rintro e w2 ⟨⟨b, rfl, hb5⟩, b2⟩
  have HR2 := hide ((unhide HR).below b2 (unhide HR).lt)
  have HB2 := hide ((unhide HB1).trans (b2.mono (by have := (unhide HB1).size; omega)))
  have H5 := hide hb5
  clear b2 hb5 HL1 HB1 HR c0 c1 c2 c3 c4 c5 c6 c7 c8
  cases b with
  | false =>
    have HAW := hide (fawake_any w2 ((unhide HT).below (unhide HB2)).1)
    go_wp2_with fail
    refine Calls.mono (unhide HAW) ?_
    rintro e w3 ⟨rfl, b3⟩
    have HB3 := hide ((unhide HB2).trans (b3.mono (unhide HB2).size))
    clear b3
    go_wp2_with fail
    go_ret
    exact ⟨rfl, unhide HB3⟩
  | true =>
    have HP2 := hide (unhide HPU w2 (unhide HB2) (unhide H5 rfl))
    have c0 : w2.cell? ⟨w.heap.size, 0, none⟩ = some (.int .i64 k) := (unhide HR2).cell 0
    have c1 : w2.cell? ⟨w.heap.size, 1, none⟩ = some (.int .i64 x0) := (unhide HR2).cell 1
    have c2 : w2.cell? ⟨w.heap.size, 2, none⟩ = some (.int .i64 x1) := (unhide HR2).cell 2
    have c3 : w2.cell? ⟨w.heap.size, 3, none⟩ = some (.int .i64 x2) := (unhide HR2).cell 3
    have c4 : w2.cell? ⟨w.heap.size, 4, none⟩ = some (.int .i64 x3) := (unhide HR2).cell 4
    have c5 : w2.cell? ⟨w.heap.size, 5, none⟩ = some (.int .i64 x4) := (unhide HR2).cell 5
    have c6 : w2.cell? ⟨w.heap.size, 6, none⟩ = some (.int .i64 x5) := (unhide HR2).cell 6
    have c7 : w2.cell? ⟨w.heap.size, 7, none⟩ = some (.int .i64 x6) := (unhide HR2).cell 7
    have c8 : w2.cell? ⟨w.heap.size, 8, none⟩ = some (.slice a n c) := (unhide HR2).cell 8
    go_wp2_with fail
    refine Calls.mono (unhide HP2) ?_
    rintro e w3 ⟨b3, hok, hno⟩
    have HB3 := hide ((unhide HB2).trans (b3.mono (unhide HB2).size))
    have HAW : Hid (∀ w4, Below w3.heap.size w3 w4 → Calls Tryd.prog 9 #[] w4 fun e w' => e = .returned (.bool true) ∧ Below w4.heap.size w4 w') := hide (fun w4 hb => fawake_any w4 (((unhide HT).below (unhide HB3)).below hb).1)
    clear b3 HPU HP2 c0 c1 c2 c3 c4 c5 c6 c7 c8
    by_cases hM : MsgOk k (nsF x0 x1 x2 x3 x4 x5 x6) l
    · obtain ⟨v, rfl, o3⟩ := hok hM
      have HML : Hid (72 ≤ (msgL k x0 x1 x2 x3 x4 x5 x6 l).length ∧ (msgL k x0 x1 x2 x3 x4 x5 x6 l).length ≤ 16320) := hide (by
        have h := light_facts hM.2.2.2.2
        rw [msgL_len]
        have := h.2.2
        have := h.1
        omega)
      have y3 := Byt.of_own o3
      obtain ⟨av, cv, rfl⟩ := byt_shape y3
      obtain ⟨ml, hml⟩ : ∃ ml, (msgL k x0 x1 x2 x3 x4 x5 x6 l).length = ml := ⟨_, rfl⟩
      rw [hml] at HML ⊢
      have HFT := fun W => ffits_any 1 1 0 av ml cv W
      have HFE : Hid (fitsE 1 1 0 ml = 0) := hide (by have := unhide HML; unfold fitsE; rw [if_neg (by omega), if_neg (by omega)])
      have HFF := hide HFT
      unfold frV at HFF
      clear y3 o3 hok hno hM hml HFT
      go_wp2_with fail
      refine Calls.mono (unhide HFF _) ?_
      rintro e w4 ⟨rfl, b4⟩
      rw [unhide HFE]
      have HA4 := hide (unhide HAW w4 b4)
      have HB4 := hide ((unhide HB3).trans (b4.mono (unhide HB3).size))
      clear b4
      go_wp2_with fail
      refine Calls.mono (unhide HA4) ?_
      rintro e w5 ⟨rfl, b5⟩
      have HB5 := hide ((unhide HB4).trans (b5.mono (unhide HB4).size))
      clear b5
      go_wp2_with fail
      go_ret
      exact ⟨rfl, unhide HB5⟩
    · obtain rfl := hno hM
      have HA3 := hide (unhide HAW w3 (Below.refl _ _))
      clear hok hno hM
      go_wp2_with fail
      refine Calls.mono (unhide HA3) ?_
      rintro e w5 ⟨rfl, b5⟩
      have HB5 := hide ((unhide HB3).trans (b5.mono (unhide HB3).size))
      clear b5
      go_wp2_with fail
      go_ret
      exact ⟨rfl, unhide HB5⟩
end Go.Proofs.YtbnfilhilgjnfaaDoor
