/- The example of the frames' laws. -/
import Derived.Test.YtonkgiiacholeaaDoorFNum
import Derived.Test.YtonkgiiacholeaaDoorFBeat
namespace Go.Proofs.YtonkgiiacholeaaDoor
set_option linter.unusedVariables false
set_option linter.unusedSimpArgs false
open Go.ChangeShapes Go.WideShapes Go.ChangeAt Go.RowKit Go.Joins

def FLay (w : World) : Prop := Lay w ∧ FTab w
theorem FLay.below {w w' : World} (h : FLay w) (hb : Below w.heap.size w w') : FLay w' := ⟨h.1.below hb, Tab.below h.2 hb (Tab.lt h.2)⟩
theorem fits_ex : fitsE 2 ((0 : Nat) : Int) 3 0 = 0 := by decide
set_option maxRecDepth 100000 in
set_option maxHeartbeats 4000000 in
theorem fawake_any (w : World) (hT : FLay w) : Calls Tryd.prog 14 #[] w fun e w' => e = .returned (.bool true) ∧ Below w.heap.size w w' := by
  have HT := hide hT
  have HPB := hide (put_beat w hT.2)
  rw [msgBeat] at HPB
  clear hT
  go_enter Tryd.func14, Tryd.ntmps14
  go_wp2_with fail
  refine Calls.mono (unhide HPB) ?_
  rintro e w2 ⟨pa, pc, rfl, b2⟩
  have HB2 := hide b2
  clear b2 HPB
  go_wp2_with fail
  have hky := fkey_any ⟨#[115]⟩ 1 2 w2 ((unhide HT).below (unhide HB2)).1.1 (by decide) (by decide) (by decide)
  rw [fkey_s _ (show sb ⟨#[115]⟩ = [115] from rfl)] at hky
  have HKY := hide hky
  have HKL : Hid (KK.length = 64) := hide (by rw [← fkey_s [115] rfl, fkeyL_len])
  have HK8 : Hid (U8 KK) := hide (by rw [← fkey_s [115] rfl]; exact fkeyL_8 _ _ _)
  have HNE := hide num_ne
  have HWP := hide (wrap_parts KK true)
  have HWN := hide (wrap_nums KK true)
  have HW8 := hide (wrap_8 KK true)
  have HWL : Hid ((wrapL KK true 2 0 3 []).length = 40) := hide (wrapL_len _ _ _ _ _ _)
  clear hky
  obtain ⟨K, hK⟩ : ∃ x, KK = x := ⟨_, rfl⟩
  rw [hK] at HKY HKL HK8 HNE HWP HWN HW8 HWL
  have HWR := hide (fun (ka : Option Addr) (kc : Nat) (wx : World) (hk : Byt wx (.slice ka 64 kc) K) (hl : Lay wx) => wrap_any ka 64 kc true 2 0 3 none 0 0 K [] wx hl hk (.inl ⟨rfl, rfl⟩) (unhide HK8) (fun y hy => by cases hy) (unhide HKL) rfl fits_ex)
  simp only [frV, show ((0 : Nat) : Int) = 0 from rfl] at HWR
  obtain ⟨L, hL⟩ : ∃ x, wrapL K true 2 0 3 [] = x := ⟨_, rfl⟩
  have HLE := hide hL
  rw [hL] at HWP HWN HW8 HWL
  clear hK hL
  refine Calls.mono (unhide HKY) ?_
  rintro e w3 ⟨v3, rfl, y3, b3⟩
  obtain ⟨ka, kc, hke⟩ := byt_shape y3
  rw [unhide HKL] at hke
  subst hke
  have B3 := (unhide HB2).trans (b3.mono (unhide HB2).size)
  have HW3 := hide (unhide HWR ka kc w3 y3 ((unhide HT).below B3).1)
  have HY3 := hide y3
  have HB3 := hide B3
  clear y3 b3 B3 HKY HWR HB2
  go_wp2_with fail
  refine Calls.mono (unhide HW3) ?_
  rintro e w4 ⟨b4, q4, q5⟩
  obtain ⟨v4, rfl, o4⟩ := q4 rfl
  clear q4 q5
  rw [unhide HLE, unhide HWL] at o4
  have y4 : Byt w4 v4 L := Byt.of_own (own_cast o4 (unhide HWL).symm rfl)
  obtain ⟨wa, wc, hwe⟩ : ∃ wa wc, v4 = .slice (some wa) 40 wc := by
    rcases y4 with ⟨_, h⟩ | ⟨a, c, h, _⟩
    · have := unhide HWL; rw [h] at this; cases this
    · exact ⟨a, c, by rw [h, unhide HWL]⟩
  subst hwe
  have B4 := (unhide HB3).trans (b4.mono (unhide HB3).size)
  have hu1 := unwrap0 ka kc true wa wc K L 2 3 w4 ((unhide HT).below B4).1 ((unhide HY3).call b4) (unhide HK8) (unhide HKL) y4 (unhide HW8) (unhide HWL) (unhide HWN).1 (unhide HWN).2.1 (unhide HWN).2.2 (by omega) (by omega) (by omega)
  have HU1 := hide hu1
  have HU2 := hide (fun (wx : World) (hb : Below w4.heap.size w4 wx) => unwrap0 ka kc false wa wc K L 2 3 wx (((unhide HT).below B4).1.below hb) (((unhide HY3).call b4).call hb) (unhide HK8) (unhide HKL) (y4.call hb) (unhide HW8) (unhide HWL) (unhide HWN).1 (unhide HWN).2.1 (unhide HWN).2.2 (by omega) (by omega) (by omega))
  have HB4 := hide B4
  clear b4 o4 y4 B4 hu1 HW3 HY3 HB3
  go_wp2_with fail
  refine Calls.mono (unhide HU1) ?_
  rintro e w5 ⟨b5, q5, q6⟩
  have he5 := q5 (by rw [(unhide HWP).1, (unhide HWP).2])
  rw [frV, show ((2 : Nat) : Int) = 2 from rfl, show ((3 : Nat) : Int) = 3 from rfl] at he5
  subst he5
  have HB5 := hide b5
  have HB5' := hide ((unhide HB4).trans (b5.mono (unhide HB4).size))
  clear b5 q5 q6 HU1
  have b6 : Below w5.heap.size w5 (w5.alloc (.cells #[.int .i64 2, .int .i64 0, .int .i64 3, .slice none 0 0] 24)) := (Below.refl _ _).alloc (Nat.le_refl _) _
  have R6 := RowAt.new w5 24 [.int .i64 2, .int .i64 0, .int .i64 3, .slice none 0 0]
  have HU3 := hide (unhide HU2 (w5.alloc (.cells #[.int .i64 2, .int .i64 0, .int .i64 3, .slice none 0 0] 24)) ((unhide HB5).trans (b6.mono (unhide HB5).size)))
  have HR6 := hide R6
  have HB6 := hide ((unhide HB5').trans (b6.mono (unhide HB5').size))
  clear b6 R6 HU2 HB5 HB5'
  go_wp2_with fail
  obtain ⟨gx, hgx⟩ : ∃ x, w5.heap.size = x := ⟨_, rfl⟩
  rw [hgx] at HR6
  try rw [hgx]
  generalize w5.alloc (.cells #[.int .i64 2, .int .i64 0, .int .i64 3, .slice none 0 0] 24) = w6 at *
  refine Calls.mono (unhide HU3) ?_
  rintro e w7 ⟨b7, q5, q6⟩
  have he7 := q6 (by rw [(unhide HWP).1, (unhide HWP).2]; exact unhide HNE)
  rw [frV] at he7
  subst he7
  have b8 : Below w7.heap.size w7 (w7.alloc (.cells #[.int .i64 0, .int .i64 0, .int .i64 0, .slice none 0 0] 24)) := (Below.refl _ _).alloc (Nat.le_refl _) _
  have R7 := (unhide HR6).below b7 (unhide HR6).lt
  have cx : (w7.alloc (.cells #[.int .i64 0, .int .i64 0, .int .i64 0, .slice none 0 0] 24)).cell? ⟨gx, 2, none⟩ = some (.int .i64 3) := (R7.below b8 R7.lt).cell 2
  have B7 := (unhide HB6).trans (b7.mono (unhide HB6).size)
  have HB7 := hide (B7.trans (b8.mono B7.size))
  clear b8 R7 B7
  clear b7 q5 q6 HU3 HB6 HR6
  go_wp2_with fail
  go_ret
  exact ⟨rfl, unhide HB7⟩
end Go.Proofs.YtonkgiiacholeaaDoor
