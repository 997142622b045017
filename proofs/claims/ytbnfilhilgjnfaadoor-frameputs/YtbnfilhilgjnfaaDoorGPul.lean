/- FramePuts: the walk. -/
import Derived.Test.YtbnfilhilgjnfaaDoorGRpt
import Derived.Test.YtbnfilhilgjnfaaDoorGOpn
namespace Go.Proofs.YtbnfilhilgjnfaaDoor
set_option linter.unusedVariables false
set_option linter.unusedSimpArgs false
open Go.ChangeShapes Go.WideShapes Go.ChangeAt Go.RowKit Go.Joins

theorem txt_8 (s : ByteArray) : U8 (txt s) := by
  intro y hy
  obtain ⟨x, _, rfl⟩ := List.mem_map.1 hy
  exact x.toNat_lt
theorem prt_8 (p : Ed.Pt) : U8 (prt p) := by
  unfold prt putB
  exact u8_app (u8_app (putN_8 (fun y hy => by cases hy) _ 2) (num8_8 _)) (txt_8 _)
theorem prts_8 (l : List Ed.Pt) : U8 (prts l) := by
  intro y hy
  obtain ⟨x, hx, hy⟩ := List.mem_flatten.1 hy
  obtain ⟨p, _, rfl⟩ := List.mem_map.1 hx
  exact prt_8 p y hy
theorem msgL_8 (k x0 x1 x2 x3 x4 x5 x6 : Int) (l : List Ed.Pt) : U8 (msgL k x0 x1 x2 x3 x4 x5 x6 l) := u8_app (putN_8 (fun y hy => by cases hy) _ 9) (prts_8 l)
set_option maxRecDepth 100000 in
set_option maxHeartbeats 8000000 in
theorem puts_law (k x0 x1 x2 x3 x4 x5 x6 : Int) (a : Option Addr) (l : List Ed.Pt) (c : Nat) (w : World) (hT : GLay w) (hp : Ed.PtsAt w a l) (hc : l.length ≤ maxLen) (hs : ∀ p ∈ l, p.text.size ≤ 281474976710656) :
    Calls Tryd.prog 4 #[msgV k x0 x1 x2 x3 x4 x5 x6 (.slice a l.length c)] w fun e w' => e = .returned (.bool true) ∧ Below w.heap.size w w' := by
  have HLT : Hid (∀ w1, Below w.heap.size w w1 → Calls Tryd.prog 8 #[msgV k x0 x1 x2 x3 x4 x5 x6 (.slice a l.length c)] w1 fun e w' => LtR l.length w1 e w') := hide (fun w1 hb => llight_any k x0 x1 x2 x3 x4 x5 x6 a l c w1 (hp.call hb) hc)
  have HPU : Hid (∀ w1, Below w.heap.size w w1 → l.length ≤ 500 → Calls Tryd.prog 14 #[msgV k x0 x1 x2 x3 x4 x5 x6 (.slice a l.length c)] w1 fun e w' => PuR k x0 x1 x2 x3 x4 x5 x6 l w1 e w') := hide (fun w1 hb h5 => fput_any k x0 x1 x2 x3 x4 x5 x6 a l c w1 (hT.below hb).1.2 (hT.below hb).2.1 (hT.below hb).2.2 (hp.call hb) (by omega) hs)
  have HRU : Hid (∀ w1, Below w.heap.size w w1 → l.length ≤ 500 → Calls Tryd.prog 15 #[msgV k x0 x1 x2 x3 x4 x5 x6 (.slice a l.length c)] w1 fun e w' => RpR k x0 x1 x2 x3 x4 x5 x6 l w1 e w') := hide (fun w1 hb h5 => rput_any k x0 x1 x2 x3 x4 x5 x6 a l c w1 (hp.call hb) (by omega) hs)
  have HAW : Hid (∀ w1, Below w.heap.size w w1 → Calls Tryd.prog 9 #[] w1 fun e w' => e = .returned (.bool true) ∧ Below w1.heap.size w1 w') := hide (fun w1 hb => fawake_any w1 (hT.below hb).1)
  obtain ⟨n, hn⟩ : ∃ n, l.length = n := ⟨_, rfl⟩
  rw [hn] at HLT HPU HRU hc ⊢
  have HN := hide hn
  clear hp hn hs hT
  have b1 : Below w.heap.size w (w.alloc (.cells #[.int .i64 k, .int .i64 x0, .int .i64 x1, .int .i64 x2, .int .i64 x3, .int .i64 x4, .int .i64 x5, .int .i64 x6, .slice a n c] 25)) := (Below.refl _ _).alloc (Nat.le_refl _) _
  have HR := hide (RowAt.new w 25 [.int .i64 k, .int .i64 x0, .int .i64 x1, .int .i64 x2, .int .i64 x3, .int .i64 x4, .int .i64 x5, .int .i64 x6, .slice a n c])
  have HL1 := hide (unhide HLT _ b1)
  have HB1 := hide b1
  clear b1 HLT
  unfold msgV at *
  have c0 : (w.alloc (.cells #[.int .i64 k, .int .i64 x0, .int .i64 x1, .int .i64 x2, .int .i64 x3, .int .i64 x4, .int .i64 x5, .int .i64 x6, .slice a n c] 25)).cell? ⟨w.heap.size, 0, none⟩ = some (.int .i64 k) := (unhide HR).cell 0
  have c1 : (w.alloc (.cells #[.int .i64 k, .int .i64 x0, .int .i64 x1, .int .i64 x2, .int .i64 x3, .int .i64 x4, .int .i64 x5, .int .i64 x6, .slice a n c] 25)).cell? ⟨w.heap.size, 1, none⟩ = some (.int .i64 x0) := (unhide HR).cell 1
  have c2 : (w.alloc (.cells #[.int .i64 k, .int .i64 x0, .int .i64 x1, .int .i64 x2, .int .i64 x3, .int .i64 x4, .int .i64 x5, .int .i64 x6, .slice a n c] 25)).cell? ⟨w.heap.size, 2, none⟩ = some (.int .i64 x1) := (unhide HR).cell 2
  have c3 : (w.alloc (.cells #[.int .i64 k, .int .i64 x0, .int .i64 x1, .int .i64 x2, .int .i64 x3, .int .i64 x4, .int .i64 x5, .int .i64 x6, .slice a n c] 25)).cell? ⟨w.heap.size, 3, none⟩ = some (.int .i64 x2) := (unhide HR).cell 3
  have c4 : (w.alloc (.cells #[.int .i64 k, .int .i64 x0, .int .i64 x1, .int .i64 x2, .int .i64 x3, .int .i64 x4, .int .i64 x5, .int .i64 x6, .slice a n c] 25)).cell? ⟨w.heap.size, 4, none⟩ = some (.int .i64 x3) := (unhide HR).cell 4
  have c5 : (w.alloc (.cells #[.int .i64 k, .int .i64 x0, .int .i64 x1, .int .i64 x2, .int .i64 x3, .int .i64 x4, .int .i64 x5, .int .i64 x6, .slice a n c] 25)).cell? ⟨w.heap.size, 5, none⟩ = some (.int .i64 x4) := (unhide HR).cell 5
  have c6 : (w.alloc (.cells #[.int .i64 k, .int .i64 x0, .int .i64 x1, .int .i64 x2, .int .i64 x3, .int .i64 x4, .int .i64 x5, .int .i64 x6, .slice a n c] 25)).cell? ⟨w.heap.size, 6, none⟩ = some (.int .i64 x5) := (unhide HR).cell 6
  have c7 : (w.alloc (.cells #[.int .i64 k, .int .i64 x0, .int .i64 x1, .int .i64 x2, .int .i64 x3, .int .i64 x4, .int .i64 x5, .int .i64 x6, .slice a n c] 25)).cell? ⟨w.heap.size, 7, none⟩ = some (.int .i64 x6) := (unhide HR).cell 7
  have c8 : (w.alloc (.cells #[.int .i64 k, .int .i64 x0, .int .i64 x1, .int .i64 x2, .int .i64 x3, .int .i64 x4, .int .i64 x5, .int .i64 x6, .slice a n c] 25)).cell? ⟨w.heap.size, 8, none⟩ = some (.slice a n c) := (unhide HR).cell 8
  go_enter Tryd.func4, Tryd.ntmps4
  go_wp2_with fail
  generalize w.alloc (.cells #[.int .i64 k, .int .i64 x0, .int .i64 x1, .int .i64 x2, .int .i64 x3, .int .i64 x4, .int .i64 x5, .int .i64 x6, .slice a n c] 25) = w1 at *
  refine Calls.mono (unhide HL1) ?_
  rintro e w2 ⟨⟨b, rfl, hb5⟩, b2⟩
  have HR2 := hide ((unhide HR).below b2 (unhide HR).lt)
  have HB2 := hide ((unhide HB1).trans (b2.mono (by have := (unhide HB1).size; omega)))
  have H5 := hide hb5
  clear b2 hb5 HL1 HB1 HR c0 c1 c2 c3 c4 c5 c6 c7 c8
  cases b with
  | false =>
    have HA2 := hide (unhide HAW w2 (unhide HB2))
    go_wp2_with fail
    refine Calls.mono (unhide HA2) ?_
    rintro e w3 ⟨rfl, b3⟩
    have HB3 := hide ((unhide HB2).trans (b3.mono (unhide HB2).size))
    clear b3
    go_wp2_with fail
    go_ret
    exact ⟨rfl, unhide HB3⟩
  | true =>
    have hn5 : n ≤ 500 := unhide H5 rfl
    have HP2 := hide (unhide HPU w2 (unhide HB2) hn5)
    have c0 : w2.cell? ⟨w.heap.size, 0, none⟩ = some (.int .i64 k) := (unhide HR2).cell 0
    have c1 : w2.cell? ⟨w.heap.size, 1, none⟩ = some (.int .i64 x0) := (unhide HR2).cell 1
    have c2 : w2.cell? ⟨w.heap.size, 2, none⟩ = some (.int .i64 x1) := (unhide HR2).cell 2
    have c3 : w2.cell? ⟨w.heap.size, 3, none⟩ = some (.int .i64 x2) := (unhide HR2).cell 3
    have c4 : w2.cell? ⟨w.heap.size, 4, none⟩ = some (.int .i64 x3) := (unhide HR2).cell 4
    have c5 : w2.cell? ⟨w.heap.size, 5, none⟩ = some (.int .i64 x4) := (unhide HR2).cell 5
    have c6 : w2.cell? ⟨w.heap.size, 6, none⟩ = some (.int .i64 x5) := (unhide HR2).cell 6
    have c7 : w2.cell? ⟨w.heap.size, 7, none⟩ = some (.int .i64 x6) := (unhide HR2).cell 7
    have c8 : w2.cell? ⟨w.heap.size, 8, none⟩ = some (.slice a n c) := (unhide HR2).cell 8
    go_wp2_with fail
    refine Calls.mono (unhide HP2) ?_
    rintro e w3 ⟨b3, hok, hno⟩
    have HB3 := hide ((unhide HB2).trans (b3.mono (unhide HB2).size))
    have HR3 := hide ((unhide HR2).below b3 (unhide HR2).lt)
    have HQ3 := hide (unhide HRU w3 (unhide HB3) hn5)
    clear b3 HPU HP2 HRU HR2 c0 c1 c2 c3 c4 c5 c6 c7 c8
    by_cases hM : MsgOk k (nsF x0 x1 x2 x3 x4 x5 x6) l
    · obtain ⟨v, rfl, o3⟩ := hok hM
      have HML : Hid ((msgL k x0 x1 x2 x3 x4 x5 x6 l).length ≤ 16320) := hide (by
        have h := light_facts hM.2.2.2.2
        rw [msgL_len]
        have := h.2.2
        have := h.1
        omega)
      have HY3 := hide (Byt.of_own o3)
      obtain ⟨av, cv, rfl⟩ := byt_shape (unhide HY3)
      have HM := hide hM
      clear hok hno hM o3
      have c0 : w3.cell? ⟨w.heap.size, 0, none⟩ = some (.int .i64 k) := (unhide HR3).cell 0
      have c1 : w3.cell? ⟨w.heap.size, 1, none⟩ = some (.int .i64 x0) := (unhide HR3).cell 1
      have c2 : w3.cell? ⟨w.heap.size, 2, none⟩ = some (.int .i64 x1) := (unhide HR3).cell 2
      have c3 : w3.cell? ⟨w.heap.size, 3, none⟩ = some (.int .i64 x2) := (unhide HR3).cell 3
      have c4 : w3.cell? ⟨w.heap.size, 4, none⟩ = some (.int .i64 x3) := (unhide HR3).cell 4
      have c5 : w3.cell? ⟨w.heap.size, 5, none⟩ = some (.int .i64 x4) := (unhide HR3).cell 5
      have c6 : w3.cell? ⟨w.heap.size, 6, none⟩ = some (.int .i64 x5) := (unhide HR3).cell 6
      have c7 : w3.cell? ⟨w.heap.size, 7, none⟩ = some (.int .i64 x6) := (unhide HR3).cell 7
      have c8 : w3.cell? ⟨w.heap.size, 8, none⟩ = some (.slice a n c) := (unhide HR3).cell 8
      go_wp2_with fail
      refine Calls.mono (unhide HQ3) ?_
      rintro e w4 ⟨b4, hok, hno⟩
      have HB4 := hide ((unhide HB3).trans (b4.mono (unhide HB3).size))
      have HY4 := hide ((unhide HY3).call b4)
      obtain ⟨v4, rfl, y4⟩ := hok (unhide HM)
      have HZ4 := hide y4
      obtain ⟨a4, c4', rfl⟩ := byt_shape y4
      clear b4 hok hno y4 c0 c1 c2 c3 c4 c5 c6 c7 c8 HY3 HR3 HQ3
      have HEQ := hide (equal_same _ _ _ w4 (unhide HY4) (unhide HZ4) (msgL_8 k x0 x1 x2 x3 x4 x5 x6 l))
      have HA4 := hide (unhide HAW w4 (unhide HB4))
      obtain ⟨ml, hml⟩ : ∃ ml, (msgL k x0 x1 x2 x3 x4 x5 x6 l).length = ml := ⟨_, rfl⟩
      rw [hml] at HML HEQ ⊢
      have hmz : (ml : Int) ≤ 16320 := by have := unhide HML; omega
      have hmd : decide ((ml : Int) ≤ 16320) = true := by simpa using hmz
      clear hml
      go_wp2_with fail
      refine Calls.mono (unhide HEQ) ?_
      rintro e wq ⟨rfl, rfl⟩
      go_wp2_with fail
      refine Calls.mono (unhide HA4) ?_
      rintro e w5 ⟨rfl, b5⟩
      have HB5 := hide ((unhide HB4).trans (b5.mono (unhide HB4).size))
      clear b5
      go_wp2_with fail
      go_ret
      exact ⟨rfl, unhide HB5⟩
    · obtain rfl := hno hM
      have HM := hide hM
      clear hok hno hM
      have c0 : w3.cell? ⟨w.heap.size, 0, none⟩ = some (.int .i64 k) := (unhide HR3).cell 0
      have c1 : w3.cell? ⟨w.heap.size, 1, none⟩ = some (.int .i64 x0) := (unhide HR3).cell 1
      have c2 : w3.cell? ⟨w.heap.size, 2, none⟩ = some (.int .i64 x1) := (unhide HR3).cell 2
      have c3 : w3.cell? ⟨w.heap.size, 3, none⟩ = some (.int .i64 x2) := (unhide HR3).cell 3
      have c4 : w3.cell? ⟨w.heap.size, 4, none⟩ = some (.int .i64 x3) := (unhide HR3).cell 4
      have c5 : w3.cell? ⟨w.heap.size, 5, none⟩ = some (.int .i64 x4) := (unhide HR3).cell 5
      have c6 : w3.cell? ⟨w.heap.size, 6, none⟩ = some (.int .i64 x5) := (unhide HR3).cell 6
      have c7 : w3.cell? ⟨w.heap.size, 7, none⟩ = some (.int .i64 x6) := (unhide HR3).cell 7
      have c8 : w3.cell? ⟨w.heap.size, 8, none⟩ = some (.slice a n c) := (unhide HR3).cell 8
      go_wp2_with fail
      refine Calls.mono (unhide HQ3) ?_
      rintro e w4 ⟨b4, hok, hno⟩
      have HB4 := hide ((unhide HB3).trans (b4.mono (unhide HB3).size))
      obtain rfl := hno (unhide HM)
      have HEQ := hide (equal_same (.slice none 0 0) (.slice none 0 0) [] w4 (.inl ⟨rfl, rfl⟩) (.inl ⟨rfl, rfl⟩) (fun y hy => by cases hy))
      have HA4 := hide (unhide HAW w4 (unhide HB4))
      clear b4 hok hno c0 c1 c2 c3 c4 c5 c6 c7 c8
      go_wp2_with fail
      refine Calls.mono (unhide HEQ) ?_
      rintro e wq ⟨rfl, rfl⟩
      go_wp2_with fail
      refine Calls.mono (unhide HA4) ?_
      rintro e w5 ⟨rfl, b5⟩
      have HB5 := hide ((unhide HB4).trans (b5.mono (unhide HB4).size))
      clear b5
      go_wp2_with fail
      go_ret
      exact ⟨rfl, unhide HB5⟩
end Go.Proofs.YtbnfilhilgjnfaaDoor
