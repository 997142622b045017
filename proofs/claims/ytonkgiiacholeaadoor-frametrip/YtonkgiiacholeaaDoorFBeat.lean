/- A beat as bytes. -/
import Derived.Test.YtonkgiiacholeaaDoorCSeal
import Derived.Test.YtonkgiiacholeaaDoorCNums
import Derived.Test.YtonkgiiacholeaaDoorRefW
import Derived.Lib.SmallJoins
import Derived.OwnWalk
namespace Go.Proofs.YtonkgiiacholeaaDoor
set_option linter.unusedVariables false
set_option linter.unusedSimpArgs false
open Go.ChangeShapes Go.WideShapes Go.ChangeAt Go.RowKit Go.Joins

def fieldsL : List Nat := [0, 4, 134, 62, 12, 0, 64, 6, 135, 66, 13]
def FTab (w : World) : Prop := Tab w 0 (i64v fieldsL)
def msgBeat : Value := .agg #[.int .i64 5, .int .i64 0, .int .i64 0, .int .i64 0, .int .i64 0, .int .i64 0, .int .i64 0, .int .i64 0, .slice none 0 0]
set_option maxRecDepth 100000 in
theorem size_nil (w : World) : Calls Tryd.prog 97 #[.slice none 0 0] w fun e w' => e = .returned (.tuple #[.int .i64 0, .int .i64 0, .int .i64 0]) ∧ w = w' := by
  go_enter Tryd.func97, Tryd.ntmps97
  go_wp2_with fail
  go_loopw [2, 3, 10] (fun a b i wr => a = .int .i64 0 ∧ b = .int .i64 0 ∧ i = .int .i64 0 ∧ w = wr) (fun _ _ _ _ => 0)
  case atStart => exact ⟨rfl, rfl, rfl, rfl⟩
  case round =>
    obtain ⟨rfl, rfl, rfl, rfl⟩ := hrel
    go_wp2_with fail
    (first | go_ret3 | go_ret2)
    exact ⟨rfl, rfl⟩
set_option maxRecDepth 100000 in
theorem weight_nil (w : World) : Calls Tryd.prog 98 #[.slice none 0 0] w fun e w' => e = .returned (.tuple #[.int .i64 0, .int .i64 0]) ∧ w = w' := by
  go_enter Tryd.func98, Tryd.ntmps98
  go_wp2_with fail
  go_loopw [2, 3, 8] (fun a b i wr => a = .int .i64 0 ∧ b = .int .i64 0 ∧ i = .int .i64 0 ∧ w = wr) (fun _ _ _ _ => 0)
  case atStart => exact ⟨rfl, rfl, rfl, rfl⟩
  case round =>
    obtain ⟨rfl, rfl, rfl, rfl⟩ := hrel
    go_wp2_with fail
    (first | go_ret3 | go_ret2)
    exact ⟨rfl, rfl⟩
set_option maxRecDepth 100000 in
theorem light_nil (w : World) : Calls Tryd.prog 85 #[.slice none 0 0] w fun e w' => e = .returned (.bool true) ∧ w = w' := by
  go_enter Tryd.func85, Tryd.ntmps85
  go_wp2_with fail
  refine Calls.mono (size_nil _) ?_
  rintro e wx ⟨rfl, rfl⟩
  go_wp2_with fail
  refine Calls.mono (weight_nil _) ?_
  rintro e wx ⟨rfl, rfl⟩
  go_wp2_with fail
  go_ret
  exact ⟨rfl, rfl⟩
def WiR (n lo hi : Int) (w : World) (e : Ending) (w' : World) : Prop := ∃ b, e = .returned (.bool b) ∧ (b = true ↔ lo ≤ n ∧ n ≤ hi) ∧ w = w'
set_option maxRecDepth 100000 in
theorem within_any (n lo hi : Int) (w : World) : Calls Tryd.prog 50 #[.int .i64 n, .int .i64 lo, .int .i64 hi] w fun e w' => WiR n lo hi w e w' := by
  by_cases h1 : lo ≤ n
  · by_cases h2 : n ≤ hi
    · have HH := hide (And.intro h1 h2)
      go_enter Tryd.func50, Tryd.ntmps50
      go_wp2_with fail
      go_ret
      exact ⟨true, rfl, ⟨fun _ => unhide HH, fun _ => rfl⟩, rfl⟩
    · have HH := hide h2
      go_enter Tryd.func50, Tryd.ntmps50
      go_wp2_with fail
      go_ret
      exact ⟨false, rfl, ⟨(fun h => by cases h), fun h => by have := unhide HH; omega⟩, rfl⟩
  · have HH := hide h1
    go_enter Tryd.func50, Tryd.ntmps50
    go_wp2_with fail
    go_ret
    exact ⟨false, rfl, ⟨(fun h => by cases h), fun h => by have := unhide HH; omega⟩, rfl⟩
theorem within_in (n lo hi : Int) (w : World) (h1 : lo ≤ n) (h2 : n ≤ hi) : Calls Tryd.prog 50 #[.int .i64 n, .int .i64 lo, .int .i64 hi] w fun e w' => e = .returned (.bool true) ∧ w = w' :=
  (within_any n lo hi w).mono fun e w' ⟨b, he, hb, hw⟩ => ⟨by rw [he, hb.2 ⟨h1, h2⟩], hw⟩
theorem within_out (n lo hi : Int) (w : World) (h : ¬ (lo ≤ n ∧ n ≤ hi)) : Calls Tryd.prog 50 #[.int .i64 n, .int .i64 lo, .int .i64 hi] w fun e w' => e = .returned (.bool false) ∧ w = w' :=
  (within_any n lo hi w).mono fun e w' ⟨b, he, hb, hw⟩ => ⟨by
    cases b
    · exact he
    · exact absurd (hb.1 rfl) h, hw⟩
theorem idx7 (k : Int) (w : World) (h0 : 0 ≤ k) (h7 : k < 7) : (Instr.index 132 (.agg #[.int .i64 0, .int .i64 0, .int .i64 0, .int .i64 0, .int .i64 0, .int .i64 0, .int .i64 0]) (.int .i64 k)).run Tryd.prog w = .ok (.int .i64 0) w := by
  have : k = 0 ∨ k = 1 ∨ k = 2 ∨ k = 3 ∨ k = 4 ∨ k = 5 ∨ k = 6 := by omega
  rcases this with rfl | rfl | rfl | rfl | rfl | rfl | rfl <;>
    simp [Instr.index, run_underlying Tryd.underlying132, asIntOf, part, go_sem]
set_option maxRecDepth 100000 in
set_option maxHeartbeats 4000000 in
theorem check_beat (w : World) (hF : FTab w) : Calls Tryd.prog 67 #[msgBeat] w fun e w' => e = .returned (.int .i64 0) ∧ Below w.heap.size w w' := by
  have b1 : Below w.heap.size w (w.alloc (.cells #[.int .i64 5, .int .i64 0, .int .i64 0, .int .i64 0, .int .i64 0, .int .i64 0, .int .i64 0, .int .i64 0, .slice none 0 0] 75)) := (Below.refl _ _).alloc (Nat.le_refl _) _
  have hF1 := Tab.below hF b1 hF.lt
  obtain ⟨t1, fr1, hF2⟩ := hF1
  have h5 : (w.alloc (.cells #[.int .i64 5, .int .i64 0, .int .i64 0, .int .i64 0, .int .i64 0, .int .i64 0, .int .i64 0, .int .i64 0, .slice none 0 0] 75)).cell? ⟨0, 5, none⟩ = some (.int .i64 0) := by
    unfold World.cell?
    rw [hF2]
    rfl
  have h8 : (w.alloc (.cells #[.int .i64 5, .int .i64 0, .int .i64 0, .int .i64 0, .int .i64 0, .int .i64 0, .int .i64 0, .int .i64 0, .slice none 0 0] 75)).cell? ⟨w.heap.size, 8, none⟩ = some (.slice none 0 0) := (RowAt.new w 75 [.int .i64 5, .int .i64 0, .int .i64 0, .int .i64 0, .int .i64 0, .int .i64 0, .int .i64 0, .int .i64 0, .slice none 0 0]).cell 8
  have hix := idx7
  have HB1 := hide b1
  clear hF b1 hF2
  unfold msgBeat
  go_enter Tryd.func67, Tryd.ntmps67
  go_wp2_with fail
  generalize w.alloc (.cells #[.int .i64 5, .int .i64 0, .int .i64 0, .int .i64 0, .int .i64 0, .int .i64 0, .int .i64 0, .int .i64 0, .slice none 0 0] 75) = w1 at *
  go_loopw [34] (fun s wr => ∃ k : Nat, k ≤ 7 ∧ s = .int .i64 (k : Int) ∧ w1 = wr) (fun s _ => (7 - intOf s).toNat)
  case atStart => exact ⟨0, by omega, rfl, rfl⟩
  case round =>
    obtain ⟨k, hk, rfl, rfl⟩ := hrel
    have hb : bits .and .i64 0 1 = 0 := by decide
    by_cases hlt : k < 7
    · have hkI : (k : Int) < 7 := by omega
      have hk0 : (0 : Int) ≤ (k : Int) := by omega
      go_wp2_with fail
      refine Calls.mono (within_in 0 0 0 _ (by omega) (by omega)) ?_
      rintro e wx ⟨rfl, rfl⟩
      go_wp2_with fail
      go_roundw
      case rel => exact ⟨k + 1, by omega, by go_num, by first | trivial | rfl⟩
      case measure => simp [intOf]; omega
    · have hkI : ¬ (k : Int) < 7 := by omega
      go_wp2_with fail
      refine Calls.mono (light_nil _) ?_
      rintro e wx ⟨rfl, rfl⟩
      go_wp2_with fail
      go_ret
      exact ⟨rfl, unhide HB1⟩
def beatN : Nat → Int
  | 0 => 5
  | _ => 0
set_option maxRecDepth 100000 in
set_option maxHeartbeats 4000000 in
theorem put_beat (w : World) (hF : FTab w) : Calls Tryd.prog 40 #[msgBeat] w fun e w' => ∃ a c, e = .returned (.tuple #[.slice a 72 c, .int .i64 0]) ∧ Below w.heap.size w w' := by
  have b1 : Below w.heap.size w (w.alloc (.cells #[.int .i64 5, .int .i64 0, .int .i64 0, .int .i64 0, .int .i64 0, .int .i64 0, .int .i64 0, .int .i64 0, .slice none 0 0] 75)) := (Below.refl _ _).alloc (Nat.le_refl _) _
  have HCK := hide (check_beat _ (Tab.below hF b1 hF.lt))
  have hR := RowAt.new w 75 [.int .i64 5, .int .i64 0, .int .i64 0, .int .i64 0, .int .i64 0, .int .i64 0, .int .i64 0, .int .i64 0, .slice none 0 0]
  have HR := hide hR
  have HB1 := hide b1
  clear hF b1 hR
  unfold msgBeat at *
  go_enter Tryd.func40, Tryd.ntmps40
  go_wp2_with fail
  generalize w.alloc (.cells #[.int .i64 5, .int .i64 0, .int .i64 0, .int .i64 0, .int .i64 0, .int .i64 0, .int .i64 0, .int .i64 0, .slice none 0 0] 75) = w1 at *
  refine Calls.mono (unhide HCK) ?_
  rintro e w2 ⟨rfl, b2⟩
  have R2 := (unhide HR).below b2 (unhide HR).lt
  have c0 : w2.cell? ⟨w.heap.size, 0, none⟩ = some (.int .i64 5) := R2.cell 0
  have c1 : w2.cell? ⟨w.heap.size, 1, none⟩ = some (.int .i64 0) := R2.cell 1
  have c2 : w2.cell? ⟨w.heap.size, 2, none⟩ = some (.int .i64 0) := R2.cell 2
  have c3 : w2.cell? ⟨w.heap.size, 3, none⟩ = some (.int .i64 0) := R2.cell 3
  have c4 : w2.cell? ⟨w.heap.size, 4, none⟩ = some (.int .i64 0) := R2.cell 4
  have c5 : w2.cell? ⟨w.heap.size, 5, none⟩ = some (.int .i64 0) := R2.cell 5
  have c6 : w2.cell? ⟨w.heap.size, 6, none⟩ = some (.int .i64 0) := R2.cell 6
  have c7 : w2.cell? ⟨w.heap.size, 7, none⟩ = some (.int .i64 0) := R2.cell 7
  have c8 : w2.cell? ⟨w.heap.size, 8, none⟩ = some (.slice none 0 0) := R2.cell 8
  have HR2 := hide R2
  have HB2 := hide ((unhide HB1).trans (b2.mono (by have := (unhide HB1).size; omega)))
  clear b2 R2 HCK HB1 HR
  go_wp2_with fail
  have b3 : Below w2.heap.size w2 (w2.alloc (.cells #[.int .i64 5, .int .i64 0, .int .i64 0, .int .i64 0, .int .i64 0, .int .i64 0, .int .i64 0, .int .i64 0, .int .i64 0] 3)) := (Below.refl _ _).alloc (Nat.le_refl _) _
  have R3 := RowAt.new w2 3 [.int .i64 5, .int .i64 0, .int .i64 0, .int .i64 0, .int .i64 0, .int .i64 0, .int .i64 0, .int .i64 0, .int .i64 0]
  have HPT := hide (put_any (.slice none 0 0) [] w2.heap.size 9 9 beatN (w2.alloc (.cells #[.int .i64 5, .int .i64 0, .int .i64 0, .int .i64 0, .int .i64 0, .int .i64 0, .int .i64 0, .int .i64 0, .int .i64 0] 3)) (.inl ⟨rfl, rfl⟩) (by simp) (by omega) (by rw [csize_alloc]; omega)
    (fun i hi => by
      match i, hi with
      | 0, _ => exact ⟨R3.cell 0, by decide, by decide⟩
      | 1, _ => exact ⟨R3.cell 1, by decide, by decide⟩
      | 2, _ => exact ⟨R3.cell 2, by decide, by decide⟩
      | 3, _ => exact ⟨R3.cell 3, by decide, by decide⟩
      | 4, _ => exact ⟨R3.cell 4, by decide, by decide⟩
      | 5, _ => exact ⟨R3.cell 5, by decide, by decide⟩
      | 6, _ => exact ⟨R3.cell 6, by decide, by decide⟩
      | 7, _ => exact ⟨R3.cell 7, by decide, by decide⟩
      | 8, _ => exact ⟨R3.cell 8, by decide, by decide⟩))
  have HR3 := hide ((unhide HR2).below b3 (unhide HR2).lt)
  have HB3 := hide ((unhide HB2).trans (b3.mono (by have := (unhide HB2).size; omega)))
  obtain ⟨P9, hP9⟩ : ∃ x, putN [] beatN 9 = x := ⟨_, rfl⟩
  have HPL : Hid (P9.length = 72) := hide (by rw [← hP9, putN_len]; rfl)
  rw [hP9] at HPT
  clear b3 R3 hP9 c0 c1 c2 c3 c4 c5 c6 c7 c8 HR2 HB2
  generalize w2.alloc (.cells #[.int .i64 5, .int .i64 0, .int .i64 0, .int .i64 0, .int .i64 0, .int .i64 0, .int .i64 0, .int .i64 0, .int .i64 0] 3) = w3 at *
  refine Calls.mono (unhide HPT) ?_
  rintro e w4 ⟨v4, rfl, o4, b4⟩
  obtain ⟨va, vc, hve⟩ := byt_shape (Byt.of_own o4)
  rw [unhide HPL] at hve
  subst hve
  have c8 : w4.cell? ⟨w.heap.size, 8, none⟩ = some (.slice none 0 0) := ((unhide HR3).below b4 (unhide HR3).lt).cell 8
  have HB4 := hide ((unhide HB3).trans (b4.mono (by have := (unhide HB3).size; omega)))
  clear o4 b4 HPT HR3 HB3
  go_wp2_with fail
  go_loopw [5, 37] (fun v i wr => v = .slice va 72 vc ∧ i = .int .i64 0 ∧ w4 = wr) (fun _ _ _ => 0)
  case atStart => exact ⟨rfl, rfl, rfl⟩
  case round =>
    obtain ⟨rfl, rfl, rfl⟩ := hrel
    go_wp2_with fail
    go_ret2
    exact ⟨_, _, rfl, unhide HB4⟩
end Go.Proofs.YtonkgiiacholeaaDoor
