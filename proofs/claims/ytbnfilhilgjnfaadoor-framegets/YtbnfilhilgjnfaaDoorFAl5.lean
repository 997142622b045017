/- Frames: keys, wrapping and unwrapping, the examples, the tables. -/
import Derived.Test.YtbnfilhilgjnfaaDoorKey
import Derived.Test.YtbnfilhilgjnfaaDoorCNums
import Derived.Test.YtbnfilhilgjnfaaDoorCSeal
import Derived.Test.YtbnfilhilgjnfaaDoorCTag
import Derived.Lib.ConvBytes
import Derived.Test.YtbnfilhilgjnfaaDoorRefW
import Derived.Lib.SmallJoins
import Derived.OwnWalk
import Derived.Deep.RegionHeld3
import Derived.Deep.QuietTactic
import Derived.BigQuiet
import Derived.Test.YtbnfilhilgjnfaaDoorCOpen
import Derived.Laws.ResultCell
import Derived.Test.YtbnfilhilgjnfaaDoorLaid
import Derived.LaidSub
namespace Go.Proofs.YtbnfilhilgjnfaaDoor
set_option linter.unusedVariables false
set_option linter.unusedSimpArgs false
open Go.ChangeShapes Go.WideShapes Go.ChangeAt Go.RowKit Go.Joins

/-- a text's bytes -/
def sb (s : ByteArray) : List Nat := s.data.toList.map UInt8.toNat
theorem sb_len (s : ByteArray) : (sb s).length = s.size := by rw [sb, List.length_map]; rfl
theorem sb_8 (s : ByteArray) : U8 (sb s) := by
  intro y hy
  simp only [sb, List.mem_map] at hy
  obtain ⟨b, _, rfl⟩ := hy
  exact b.toNat_lt
theorem sb_byt (w : World) (s : ByteArray) (h : s.size ≤ maxLen) : Byt (Lib.bytesWorld w 5 s) (.slice (some ⟨w.heap.size, 0, none⟩) s.size (grownCap w s.size 0 5)) (sb s) := by
  refine .inr ⟨⟨w.heap.size, 0, none⟩, grownCap w s.size 0 5, by rw [sb_len], by rw [sb_len]; exact grownCap_ge _ _ _ _, grownCap_le_maxLen _ _ _ _ h, fun i y hy => ?_⟩
  have hi : i < s.size := by
    have := (List.getElem?_eq_some_iff.1 hy).1
    rw [sb_len] at this
    exact this
  rw [add_plain, Nat.zero_add, Lib.bytesWorld_cell w 5 s i hi]
  simp only [sb, List.getElem?_map] at hy
  obtain ⟨b, hb, rfl⟩ := Option.map_eq_some_iff.1 hy
  rw [List.getD_eq_getElem?_getD, hb]
  rfl
theorem sb_below (w : World) (s : ByteArray) : Below w.heap.size w (Lib.bytesWorld w 5 s) := by
  refine ⟨rfl, rfl, rfl, by rw [Lib.bytesWorld_size]; omega, fun k hk => Lib.bytesWorld_at_old w 5 s k hk⟩
def keyN (who conn : Int) : Nat → Int
  | 0 => who
  | _ => conn
/-- a connection's key -/
def fkeyL (sec : List Nat) (who conn : Int) : List Nat := (keyAll (keyedL sec (putN [] (keyN who conn) 2)) 255).take 64
theorem fkeyL_len (sec : List Nat) (who conn : Int) : (fkeyL sec who conn).length = 64 := by
  rw [fkeyL, List.length_take, keyAll_len]
  rfl
theorem fkeyL_8 (sec : List Nat) (who conn : Int) : U8 (fkeyL sec who conn) := fun y hy => keyAll_8 _ _ y (List.mem_of_mem_take hy)

set_option maxRecDepth 100000 in
set_option maxHeartbeats 4000000 in
theorem fkey_any (s : ByteArray) (who conn : Int) (w : World) (hT : Tabs w) (hs : s.size ≤ 100000) (hw : who ≤ 9223372036854775807) (hc : conn ≤ 9223372036854775807) :
    Calls Tryd.prog 22 #[.string s, .int .i64 who, .int .i64 conn] w fun e w' => ∃ v', e = .returned v' ∧ Byt w' v' (fkeyL (sb s) who conn) ∧ Below w.heap.size w w' := by
  have hcv := fun w' => Lib.run_convert_string_bytes (P := Tryd.prog) w' 9 30 5 s Tryd.underlying9 Tryd.underlying30 Tryd.underlying5
  have HS := hide (sb_byt w s (by unfold maxLen; omega))
  have HB := hide (sb_below w s)
  obtain ⟨FK, hFK⟩ : ∃ x, fkeyL (sb s) who conn = x := ⟨_, rfl⟩
  rw [hFK]
  have HFE : Hid (FK = (keyAll (keyedL (sb s) (putN [] (keyN who conn) 2)) 255).take 64) := hide (by rw [← hFK, fkeyL])
  clear hFK
  go_enter Tryd.func22, Tryd.ntmps22
  go_wp2_with fail
  generalize Lib.bytesWorld w 5 s = w1 at *
  clear hcv
  have b2 : Below w1.heap.size w1 (w1.alloc (.cells #[.int .i64 who, .int .i64 conn] 3)) := (Below.refl _ _).alloc (Nat.le_refl _) _
  have hcell := RowAt.new w1 3 [.int .i64 who, .int .i64 conn]
  have HPT := hide (putm_any (.slice none 0 0) [] (some ⟨w1.heap.size, 0, none⟩) 2 2 (keyN who conn) (w1.alloc (.cells #[.int .i64 who, .int .i64 conn] 3)) (.inl ⟨rfl, rfl⟩) (by simp) (by omega)
    (.inr ⟨w1.heap.size, 0, rfl, by rw [csize_alloc]; omega, fun i hi => by
      rw [Nat.zero_add]
      match i, hi with
      | 0, _ => exact hcell.cell 0
      | 1, _ => exact hcell.cell 1⟩)
    (fun i hi => by
      match i, hi with
      | 0, _ => exact hw
      | 1, _ => exact hc))
  have HB2 := hide ((unhide HB).trans (b2.mono (unhide HB).size))
  have HS2 := hide ((unhide HS).call b2)
  obtain ⟨U, hU⟩ : ∃ x, putN [] (keyN who conn) 2 = x := ⟨_, rfl⟩
  have HUL : Hid (U.length = 16) := hide (by rw [← hU, putN_len]; rfl)
  have HU8 : Hid (U8 U) := hide (hU ▸ putN_8 (fun y hy => by cases hy) _ 2)
  rw [hU] at HPT HFE
  clear hU b2 hcell
  generalize w1.alloc (.cells #[.int .i64 who, .int .i64 conn] 3) = w2 at *
  refine Calls.mono (unhide HPT) ?_
  rintro e w3 ⟨v3, rfl, o3, b3⟩
  have B3 := (unhide HB2).trans (b3.mono (unhide HB2).size)
  have hky := key_any _ v3 (sb s) U 64 w3 (hT.below B3) ((unhide HS2).call b3) (Byt.of_own o3) (sb_8 s) (unhide HU8) (by rw [sb_len]; omega) (by rw [unhide HUL]; omega) (by omega)
  rw [← unhide HFE, show ((64 : Nat) : Int) = 64 from rfl] at hky
  have HKY := hide hky
  clear hky HFE
  have HB3 := hide B3
  clear o3 b3 B3 HPT
  go_wp2_with fail
  refine Calls.mono (unhide HKY) ?_
  rintro e w4 ⟨v4, rfl, y4, b4⟩
  have HF : Hid (Byt w4 v4 FK ∧ Below w.heap.size w w4) := hide ⟨y4, (unhide HB3).trans (b4.mono (unhide HB3).size)⟩
  clear y4 b4 HKY
  go_wp2_with fail
  go_ret
  exact ⟨_, rfl, unhide HF⟩
end Go.Proofs.YtbnfilhilgjnfaaDoor

namespace Go.Proofs.YtbnfilhilgjnfaaDoor
set_option linter.unusedVariables false
set_option linter.unusedSimpArgs false
open Go.ChangeShapes Go.WideShapes Go.ChangeAt Go.RowKit Go.Joins

def fieldsL : List Nat := [0, 4, 134, 62, 12, 0, 64, 6, 135, 66, 13]
def FTab (w : World) : Prop := Tab w 0 (i64v fieldsL)
def msgBeat : Value := .agg #[.int .i64 5, .int .i64 0, .int .i64 0, .int .i64 0, .int .i64 0, .int .i64 0, .int .i64 0, .int .i64 0, .slice none 0 0]
set_option maxRecDepth 100000 in
theorem size_nil (w : World) : Calls Tryd.prog 28 #[.slice none 0 0] w fun e w' => e = .returned (.tuple #[.int .i64 0, .int .i64 0, .int .i64 0]) ∧ w = w' := by
  go_enter Tryd.func28, Tryd.ntmps28
  go_wp2_with fail
  go_loopw [2, 3, 10] (fun a b i wr => a = .int .i64 0 ∧ b = .int .i64 0 ∧ i = .int .i64 0 ∧ w = wr) (fun _ _ _ _ => 0)
  case atStart => exact ⟨rfl, rfl, rfl, rfl⟩
  case round =>
    obtain ⟨rfl, rfl, rfl, rfl⟩ := hrel
    go_wp2_with fail
    (first | go_ret3 | go_ret2)
    exact ⟨rfl, rfl⟩
set_option maxRecDepth 100000 in
theorem weight_nil (w : World) : Calls Tryd.prog 29 #[.slice none 0 0] w fun e w' => e = .returned (.tuple #[.int .i64 0, .int .i64 0]) ∧ w = w' := by
  go_enter Tryd.func29, Tryd.ntmps29
  go_wp2_with fail
  go_loopw [2, 3, 8] (fun a b i wr => a = .int .i64 0 ∧ b = .int .i64 0 ∧ i = .int .i64 0 ∧ w = wr) (fun _ _ _ _ => 0)
  case atStart => exact ⟨rfl, rfl, rfl, rfl⟩
  case round =>
    obtain ⟨rfl, rfl, rfl, rfl⟩ := hrel
    go_wp2_with fail
    (first | go_ret3 | go_ret2)
    exact ⟨rfl, rfl⟩
set_option maxRecDepth 100000 in
theorem light_nil (w : World) : Calls Tryd.prog 12 #[.slice none 0 0] w fun e w' => e = .returned (.bool true) ∧ w = w' := by
  go_enter Tryd.func12, Tryd.ntmps12
  go_wp2_with fail
  refine Calls.mono (size_nil _) ?_
  rintro e wx ⟨rfl, rfl⟩
  go_wp2_with fail
  refine Calls.mono (weight_nil _) ?_
  rintro e wx ⟨rfl, rfl⟩
  go_wp2_with fail
  go_ret
  exact ⟨rfl, rfl⟩
def WiR (n lo hi : Int) (w : World) (e : Ending) (w' : World) : Prop := ∃ b, e = .returned (.bool b) ∧ (b = true ↔ lo ≤ n ∧ n ≤ hi) ∧ w = w'
set_option maxRecDepth 100000 in
theorem within_any (n lo hi : Int) (w : World) : Calls Tryd.prog 25 #[.int .i64 n, .int .i64 lo, .int .i64 hi] w fun e w' => WiR n lo hi w e w' := by
  by_cases h1 : lo ≤ n
  · by_cases h2 : n ≤ hi
    · have HH := hide (And.intro h1 h2)
      go_enter Tryd.func25, Tryd.ntmps25
      go_wp2_with fail
      go_ret
      exact ⟨true, rfl, ⟨fun _ => unhide HH, fun _ => rfl⟩, rfl⟩
    · have HH := hide h2
      go_enter Tryd.func25, Tryd.ntmps25
      go_wp2_with fail
      go_ret
      exact ⟨false, rfl, ⟨(fun h => by cases h), fun h => by have := unhide HH; omega⟩, rfl⟩
  · have HH := hide h1
    go_enter Tryd.func25, Tryd.ntmps25
    go_wp2_with fail
    go_ret
    exact ⟨false, rfl, ⟨(fun h => by cases h), fun h => by have := unhide HH; omega⟩, rfl⟩
theorem within_in (n lo hi : Int) (w : World) (h1 : lo ≤ n) (h2 : n ≤ hi) : Calls Tryd.prog 25 #[.int .i64 n, .int .i64 lo, .int .i64 hi] w fun e w' => e = .returned (.bool true) ∧ w = w' :=
  (within_any n lo hi w).mono fun e w' ⟨b, he, hb, hw⟩ => ⟨by rw [he, hb.2 ⟨h1, h2⟩], hw⟩
theorem within_out (n lo hi : Int) (w : World) (h : ¬ (lo ≤ n ∧ n ≤ hi)) : Calls Tryd.prog 25 #[.int .i64 n, .int .i64 lo, .int .i64 hi] w fun e w' => e = .returned (.bool false) ∧ w = w' :=
  (within_any n lo hi w).mono fun e w' ⟨b, he, hb, hw⟩ => ⟨by
    cases b
    · exact he
    · exact absurd (hb.1 rfl) h, hw⟩
theorem idx7 (k : Int) (w : World) (h0 : 0 ≤ k) (h7 : k < 7) : (Instr.index 50 (.agg #[.int .i64 0, .int .i64 0, .int .i64 0, .int .i64 0, .int .i64 0, .int .i64 0, .int .i64 0]) (.int .i64 k)).run Tryd.prog w = .ok (.int .i64 0) w := by
  have : k = 0 ∨ k = 1 ∨ k = 2 ∨ k = 3 ∨ k = 4 ∨ k = 5 ∨ k = 6 := by omega
  rcases this with rfl | rfl | rfl | rfl | rfl | rfl | rfl <;>
    simp [Instr.index, run_underlying Tryd.underlying50, asIntOf, part, go_sem]
set_option maxRecDepth 100000 in
set_option maxHeartbeats 4000000 in
theorem check_beat (w : World) (hF : FTab w) : Calls Tryd.prog 10 #[msgBeat] w fun e w' => e = .returned (.int .i64 0) ∧ Below w.heap.size w w' := by
  have b1 : Below w.heap.size w (w.alloc (.cells #[.int .i64 5, .int .i64 0, .int .i64 0, .int .i64 0, .int .i64 0, .int .i64 0, .int .i64 0, .int .i64 0, .slice none 0 0] 25)) := (Below.refl _ _).alloc (Nat.le_refl _) _
  have hF1 := Tab.below hF b1 hF.lt
  obtain ⟨t1, fr1, hF2⟩ := hF1
  have h5 : (w.alloc (.cells #[.int .i64 5, .int .i64 0, .int .i64 0, .int .i64 0, .int .i64 0, .int .i64 0, .int .i64 0, .int .i64 0, .slice none 0 0] 25)).cell? ⟨0, 5, none⟩ = some (.int .i64 0) := by
    unfold World.cell?
    rw [hF2]
    rfl
  have h8 : (w.alloc (.cells #[.int .i64 5, .int .i64 0, .int .i64 0, .int .i64 0, .int .i64 0, .int .i64 0, .int .i64 0, .int .i64 0, .slice none 0 0] 25)).cell? ⟨w.heap.size, 8, none⟩ = some (.slice none 0 0) := (RowAt.new w 25 [.int .i64 5, .int .i64 0, .int .i64 0, .int .i64 0, .int .i64 0, .int .i64 0, .int .i64 0, .int .i64 0, .slice none 0 0]).cell 8
  have hix := idx7
  have HB1 := hide b1
  clear hF b1 hF2
  unfold msgBeat
  go_enter Tryd.func10, Tryd.ntmps10
  go_wp2_with fail
  generalize w.alloc (.cells #[.int .i64 5, .int .i64 0, .int .i64 0, .int .i64 0, .int .i64 0, .int .i64 0, .int .i64 0, .int .i64 0, .slice none 0 0] 25) = w1 at *
  go_loopw [34] (fun s wr => ∃ k : Nat, k ≤ 7 ∧ s = .int .i64 (k : Int) ∧ w1 = wr) (fun s _ => (7 - intOf s).toNat)
  case atStart => exact ⟨0, by omega, rfl, rfl⟩
  case round =>
    obtain ⟨k, hk, rfl, rfl⟩ := hrel
    have hb : bits .and .i64 0 1 = 0 := by decide
    by_cases hlt : k < 7
    · have hkI : (k : Int) < 7 := by omega
      have hk0 : (0 : Int) ≤ (k : Int) := by omega
      go_wp2_with fail
      refine Calls.mono (within_in 0 0 0 _ (by omega) (by omega)) ?_
      rintro e wx ⟨rfl, rfl⟩
      go_wp2_with fail
      go_roundw
      case rel => exact ⟨k + 1, by omega, by go_num, by first | trivial | rfl⟩
      case measure => simp [intOf]; omega
    · have hkI : ¬ (k : Int) < 7 := by omega
      go_wp2_with fail
      refine Calls.mono (light_nil _) ?_
      rintro e wx ⟨rfl, rfl⟩
      go_wp2_with fail
      go_ret
      exact ⟨rfl, unhide HB1⟩
def beatN : Nat → Int
  | 0 => 5
  | _ => 0
set_option maxRecDepth 100000 in
set_option maxHeartbeats 4000000 in
theorem put_beat (w : World) (hF : FTab w) : Calls Tryd.prog 14 #[msgBeat] w fun e w' => ∃ a c, e = .returned (.tuple #[.slice a 72 c, .int .i64 0]) ∧ Below w.heap.size w w' := by
  have b1 : Below w.heap.size w (w.alloc (.cells #[.int .i64 5, .int .i64 0, .int .i64 0, .int .i64 0, .int .i64 0, .int .i64 0, .int .i64 0, .int .i64 0, .slice none 0 0] 25)) := (Below.refl _ _).alloc (Nat.le_refl _) _
  have HCK := hide (check_beat _ (Tab.below hF b1 hF.lt))
  have hR := RowAt.new w 25 [.int .i64 5, .int .i64 0, .int .i64 0, .int .i64 0, .int .i64 0, .int .i64 0, .int .i64 0, .int .i64 0, .slice none 0 0]
  have HR := hide hR
  have HB1 := hide b1
  clear hF b1 hR
  unfold msgBeat at *
  go_enter Tryd.func14, Tryd.ntmps14
  go_wp2_with fail
  generalize w.alloc (.cells #[.int .i64 5, .int .i64 0, .int .i64 0, .int .i64 0, .int .i64 0, .int .i64 0, .int .i64 0, .int .i64 0, .slice none 0 0] 25) = w1 at *
  refine Calls.mono (unhide HCK) ?_
  rintro e w2 ⟨rfl, b2⟩
  have R2 := (unhide HR).below b2 (unhide HR).lt
  have c0 : w2.cell? ⟨w.heap.size, 0, none⟩ = some (.int .i64 5) := R2.cell 0
  have c1 : w2.cell? ⟨w.heap.size, 1, none⟩ = some (.int .i64 0) := R2.cell 1
  have c2 : w2.cell? ⟨w.heap.size, 2, none⟩ = some (.int .i64 0) := R2.cell 2
  have c3 : w2.cell? ⟨w.heap.size, 3, none⟩ = some (.int .i64 0) := R2.cell 3
  have c4 : w2.cell? ⟨w.heap.size, 4, none⟩ = some (.int .i64 0) := R2.cell 4
  have c5 : w2.cell? ⟨w.heap.size, 5, none⟩ = some (.int .i64 0) := R2.cell 5
  have c6 : w2.cell? ⟨w.heap.size, 6, none⟩ = some (.int .i64 0) := R2.cell 6
  have c7 : w2.cell? ⟨w.heap.size, 7, none⟩ = some (.int .i64 0) := R2.cell 7
  have c8 : w2.cell? ⟨w.heap.size, 8, none⟩ = some (.slice none 0 0) := R2.cell 8
  have HR2 := hide R2
  have HB2 := hide ((unhide HB1).trans (b2.mono (by have := (unhide HB1).size; omega)))
  clear b2 R2 HCK HB1 HR
  go_wp2_with fail
  have b3 : Below w2.heap.size w2 (w2.alloc (.cells #[.int .i64 5, .int .i64 0, .int .i64 0, .int .i64 0, .int .i64 0, .int .i64 0, .int .i64 0, .int .i64 0, .int .i64 0] 3)) := (Below.refl _ _).alloc (Nat.le_refl _) _
  have R3 := RowAt.new w2 3 [.int .i64 5, .int .i64 0, .int .i64 0, .int .i64 0, .int .i64 0, .int .i64 0, .int .i64 0, .int .i64 0, .int .i64 0]
  have HPT := hide (put_any (.slice none 0 0) [] w2.heap.size 9 9 beatN (w2.alloc (.cells #[.int .i64 5, .int .i64 0, .int .i64 0, .int .i64 0, .int .i64 0, .int .i64 0, .int .i64 0, .int .i64 0, .int .i64 0] 3)) (.inl ⟨rfl, rfl⟩) (by simp) (by omega) (by rw [csize_alloc]; omega)
    (fun i hi => by
      match i, hi with
      | 0, _ => exact ⟨R3.cell 0, by decide, by decide⟩
      | 1, _ => exact ⟨R3.cell 1, by decide, by decide⟩
      | 2, _ => exact ⟨R3.cell 2, by decide, by decide⟩
      | 3, _ => exact ⟨R3.cell 3, by decide, by decide⟩
      | 4, _ => exact ⟨R3.cell 4, by decide, by decide⟩
      | 5, _ => exact ⟨R3.cell 5, by decide, by decide⟩
      | 6, _ => exact ⟨R3.cell 6, by decide, by decide⟩
      | 7, _ => exact ⟨R3.cell 7, by decide, by decide⟩
      | 8, _ => exact ⟨R3.cell 8, by decide, by decide⟩))
  have HR3 := hide ((unhide HR2).below b3 (unhide HR2).lt)
  have HB3 := hide ((unhide HB2).trans (b3.mono (by have := (unhide HB2).size; omega)))
  obtain ⟨P9, hP9⟩ : ∃ x, putN [] beatN 9 = x := ⟨_, rfl⟩
  have HPL : Hid (P9.length = 72) := hide (by rw [← hP9, putN_len]; rfl)
  rw [hP9] at HPT
  clear b3 R3 hP9 c0 c1 c2 c3 c4 c5 c6 c7 c8 HR2 HB2
  generalize w2.alloc (.cells #[.int .i64 5, .int .i64 0, .int .i64 0, .int .i64 0, .int .i64 0, .int .i64 0, .int .i64 0, .int .i64 0, .int .i64 0] 3) = w3 at *
  refine Calls.mono (unhide HPT) ?_
  rintro e w4 ⟨v4, rfl, o4, b4⟩
  obtain ⟨va, vc, hve⟩ := byt_shape (Byt.of_own o4)
  rw [unhide HPL] at hve
  subst hve
  have c8 : w4.cell? ⟨w.heap.size, 8, none⟩ = some (.slice none 0 0) := ((unhide HR3).below b4 (unhide HR3).lt).cell 8
  have HB4 := hide ((unhide HB3).trans (b4.mono (by have := (unhide HB3).size; omega)))
  clear o4 b4 HPT HR3 HB3
  go_wp2_with fail
  go_loopw [5, 37] (fun v i wr => v = .slice va 72 vc ∧ i = .int .i64 0 ∧ w4 = wr) (fun _ _ _ => 0)
  case atStart => exact ⟨rfl, rfl, rfl⟩
  case round =>
    obtain ⟨rfl, rfl, rfl⟩ := hrel
    go_wp2_with fail
    go_ret2
    exact ⟨_, _, rfl, unhide HB4⟩
end Go.Proofs.YtbnfilhilgjnfaaDoor

namespace Go.Proofs.YtbnfilhilgjnfaaDoor
set_option linter.unusedVariables false
set_option linter.unusedSimpArgs false
open Go.ChangeShapes Go.WideShapes Go.ChangeAt Go.RowKit Go.Joins

def frV (c s k : Int) (b : Value) : Value := .agg #[.int .i64 c, .int .i64 s, .int .i64 k, b]
def fitsE (c s k : Int) (bn : Nat) : Int :=
  if c < 1 ∨ 1099511627776 < c ∨ s < 0 ∨ 1099511627776 < s ∨ k < 0 ∨ 1099511627776 < k ∨ ¬ (s = 0 ↔ bn = 0) then 120 else if 16320 < bn then 4 else 0

set_option maxRecDepth 100000 in
set_option maxHeartbeats 4000000 in
theorem ffits_any (c s k : Int) (ba : Option Addr) (bn bc : Nat) (w : World) : Calls Tryd.prog 21 #[frV c s k (.slice ba bn bc)] w fun e w' => e = .returned (.int .i64 (fitsE c s k bn)) ∧ Below w.heap.size w w' := by
  unfold frV
  by_cases h1 : 1 ≤ c ∧ c ≤ 1099511627776
  · by_cases h2 : 0 ≤ s ∧ s ≤ 1099511627776
    · by_cases h3 : 0 ≤ k ∧ k ≤ 1099511627776
      · by_cases h4 : s = 0
        · subst h4
          by_cases h5 : bn = 0
          · subst h5
            have HE : Hid (fitsE c 0 k 0 = 0) := hide (by unfold fitsE; rw [if_neg (by omega), if_neg (by omega)])
            have H1 := hide h1
            have H3 := hide h3
            clear h1 h2 h3
            go_enter Tryd.func21, Tryd.ntmps21
            go_wp2_with fail
            refine Calls.mono (within_in c 1 1099511627776 _ (unhide H1).1 (unhide H1).2) ?_
            rintro e wx ⟨rfl, rfl⟩
            go_wp2_with fail
            refine Calls.mono (within_in 0 0 1099511627776 _ (by omega) (by omega)) ?_
            rintro e wx ⟨rfl, rfl⟩
            go_wp2_with fail
            refine Calls.mono (within_in k 0 1099511627776 _ (unhide H3).1 (unhide H3).2) ?_
            rintro e wx ⟨rfl, rfl⟩
            go_wp2_with fail
            all_goals (first
              | (exfalso; omega)
              | (go_ret; refine ⟨?_, (Below.refl _ _).alloc (Nat.le_refl _) _⟩; rw [unhide HE]; rfl)
              | (exfalso; have q2 := unhide H2; omega) | (exfalso; have q2 := unhide H2; simp at *; omega) | (exfalso; simp at *; omega))
          · have HE : Hid (fitsE c 0 k bn = 120) := hide (by unfold fitsE; rw [if_pos (by omega)])
            have H1 := hide h1
            have H3 := hide h3
            have h5I : ¬ (bn : Int) = 0 := by omega
            clear h1 h2 h3
            go_enter Tryd.func21, Tryd.ntmps21
            go_wp2_with fail
            refine Calls.mono (within_in c 1 1099511627776 _ (unhide H1).1 (unhide H1).2) ?_
            rintro e wx ⟨rfl, rfl⟩
            go_wp2_with fail
            refine Calls.mono (within_in 0 0 1099511627776 _ (by omega) (by omega)) ?_
            rintro e wx ⟨rfl, rfl⟩
            go_wp2_with fail
            refine Calls.mono (within_in k 0 1099511627776 _ (unhide H3).1 (unhide H3).2) ?_
            rintro e wx ⟨rfl, rfl⟩
            go_wp2_with fail
            all_goals (first
              | (exfalso; omega)
              | (go_ret; refine ⟨?_, (Below.refl _ _).alloc (Nat.le_refl _) _⟩; rw [unhide HE]; rfl)
              | (exfalso; have q2 := unhide H2; omega) | (exfalso; have q2 := unhide H2; simp at *; omega) | (exfalso; simp at *; omega))
        · by_cases h5 : bn = 0
          · subst h5
            have HE : Hid (fitsE c s k 0 = 120) := hide (by unfold fitsE; rw [if_pos (by omega)])
            have H1 := hide h1
            have H2 := hide h2
            have H3 := hide h3
            clear h1 h2 h3
            go_enter Tryd.func21, Tryd.ntmps21
            go_wp2_with fail
            refine Calls.mono (within_in c 1 1099511627776 _ (unhide H1).1 (unhide H1).2) ?_
            rintro e wx ⟨rfl, rfl⟩
            go_wp2_with fail
            refine Calls.mono (within_in s 0 1099511627776 _ (unhide H2).1 (unhide H2).2) ?_
            rintro e wx ⟨rfl, rfl⟩
            go_wp2_with fail
            refine Calls.mono (within_in k 0 1099511627776 _ (unhide H3).1 (unhide H3).2) ?_
            rintro e wx ⟨rfl, rfl⟩
            go_wp2_with fail
            all_goals (first
              | (exfalso; omega)
              | (go_ret; refine ⟨?_, (Below.refl _ _).alloc (Nat.le_refl _) _⟩; rw [unhide HE]; rfl)
              | (exfalso; have q2 := unhide H2; omega) | (exfalso; have q2 := unhide H2; simp at *; omega) | (exfalso; simp at *; omega))
          · by_cases h6 : 16320 < bn
            · have HE : Hid (fitsE c s k bn = 4) := hide (by unfold fitsE; rw [if_neg (by omega), if_pos h6])
              have H1 := hide h1
              have H2 := hide h2
              have H3 := hide h3
              have h5I : ¬ (bn : Int) = 0 := by omega
              have hb1 : (s == 0) = false := by simp [h4]
              have hb2 : ((bn : Int) == 0) = false := by simp; omega
              have h6I : (16320 : Int) < (bn : Int) := by omega
              clear h1 h2 h3
              go_enter Tryd.func21, Tryd.ntmps21
              go_wp2_with fail
              refine Calls.mono (within_in c 1 1099511627776 _ (unhide H1).1 (unhide H1).2) ?_
              rintro e wx ⟨rfl, rfl⟩
              go_wp2_with fail
              refine Calls.mono (within_in s 0 1099511627776 _ (unhide H2).1 (unhide H2).2) ?_
              rintro e wx ⟨rfl, rfl⟩
              go_wp2_with fail
              refine Calls.mono (within_in k 0 1099511627776 _ (unhide H3).1 (unhide H3).2) ?_
              rintro e wx ⟨rfl, rfl⟩
              go_wp2_with fail
              all_goals (first
                | (exfalso; omega)
                | (go_ret; refine ⟨?_, (Below.refl _ _).alloc (Nat.le_refl _) _⟩; rw [unhide HE]; rfl)
                | (exfalso; have q2 := unhide H2; omega) | (exfalso; have q2 := unhide H2; simp at *; omega) | (exfalso; simp at *; omega))
            · have HE : Hid (fitsE c s k bn = 0) := hide (by unfold fitsE; rw [if_neg (by omega), if_neg h6])
              have H1 := hide h1
              have H2 := hide h2
              have H3 := hide h3
              have h5I : ¬ (bn : Int) = 0 := by omega
              have hb1 : (s == 0) = false := by simp [h4]
              have hb2 : ((bn : Int) == 0) = false := by simp; omega
              have h6I : ¬ (16320 : Int) < (bn : Int) := by omega
              clear h1 h2 h3
              go_enter Tryd.func21, Tryd.ntmps21
              go_wp2_with fail
              refine Calls.mono (within_in c 1 1099511627776 _ (unhide H1).1 (unhide H1).2) ?_
              rintro e wx ⟨rfl, rfl⟩
              go_wp2_with fail
              refine Calls.mono (within_in s 0 1099511627776 _ (unhide H2).1 (unhide H2).2) ?_
              rintro e wx ⟨rfl, rfl⟩
              go_wp2_with fail
              refine Calls.mono (within_in k 0 1099511627776 _ (unhide H3).1 (unhide H3).2) ?_
              rintro e wx ⟨rfl, rfl⟩
              go_wp2_with fail
              all_goals (first
                | (exfalso; omega)
                | (go_ret; refine ⟨?_, (Below.refl _ _).alloc (Nat.le_refl _) _⟩; rw [unhide HE]; rfl)
                | (exfalso; have q2 := unhide H2; omega) | (exfalso; have q2 := unhide H2; simp at *; omega) | (exfalso; simp at *; omega))
      · have HE : Hid (fitsE c s k bn = 120) := hide (by unfold fitsE; rw [if_pos (by omega)])
        have H1 := hide h1
        have H2 := hide h2
        have H3 := hide h3
        clear h1 h2 h3
        go_enter Tryd.func21, Tryd.ntmps21
        go_wp2_with fail
        refine Calls.mono (within_in c 1 1099511627776 _ (unhide H1).1 (unhide H1).2) ?_
        rintro e wx ⟨rfl, rfl⟩
        go_wp2_with fail
        refine Calls.mono (within_in s 0 1099511627776 _ (unhide H2).1 (unhide H2).2) ?_
        rintro e wx ⟨rfl, rfl⟩
        go_wp2_with fail
        refine Calls.mono (within_out k 0 1099511627776 _ (unhide H3)) ?_
        rintro e wx ⟨rfl, rfl⟩
        go_wp2_with fail
        all_goals (first
          | (exfalso; omega)
          | (go_ret; refine ⟨?_, (Below.refl _ _).alloc (Nat.le_refl _) _⟩; rw [unhide HE]; rfl)
          | (exfalso; have q2 := unhide H2; omega) | (exfalso; have q2 := unhide H2; simp at *; omega) | (exfalso; simp at *; omega))
    · have HE : Hid (fitsE c s k bn = 120) := hide (by unfold fitsE; rw [if_pos (by omega)])
      have H1 := hide h1
      have H2 := hide h2
      clear h1 h2
      go_enter Tryd.func21, Tryd.ntmps21
      go_wp2_with fail
      refine Calls.mono (within_in c 1 1099511627776 _ (unhide H1).1 (unhide H1).2) ?_
      rintro e wx ⟨rfl, rfl⟩
      go_wp2_with fail
      refine Calls.mono (within_out s 0 1099511627776 _ (unhide H2)) ?_
      rintro e wx ⟨rfl, rfl⟩
      go_wp2_with fail
      all_goals (first
        | (exfalso; omega)
        | (go_ret; refine ⟨?_, (Below.refl _ _).alloc (Nat.le_refl _) _⟩; rw [unhide HE]; rfl)
        | (exfalso; have q2 := unhide H2; omega) | (exfalso; have q2 := unhide H2; simp at *; omega) | (exfalso; simp at *; omega))
  · have HE : Hid (fitsE c s k bn = 120) := hide (by unfold fitsE; rw [if_pos (by omega)])
    have H1 := hide h1
    clear h1
    go_enter Tryd.func21, Tryd.ntmps21
    go_wp2_with fail
    refine Calls.mono (within_out c 1 1099511627776 _ (unhide H1)) ?_
    rintro e wx ⟨rfl, rfl⟩
    go_wp2_with fail
    all_goals (first
      | (exfalso; omega)
      | (go_ret; refine ⟨?_, (Below.refl _ _).alloc (Nat.le_refl _) _⟩; rw [unhide HE]; rfl)
      | (exfalso; have q2 := unhide H2; omega) | (exfalso; have q2 := unhide H2; simp at *; omega) | (exfalso; simp at *; omega))

set_option maxRecDepth 100000 in
theorem fonce_any (s : Nat) (up : Bool) (w : World) (hs : s ≤ 1099511627776) : Calls Tryd.prog 45 #[.int .i64 (s : Int), .bool up] w fun e w' => e = .returned (.int .u64 ((2 * s + (if up then 0 else 1) : Nat) : Int)) ∧ w = w' := by
  have e1 : (2 * (s : Int)) % 18446744073709551616 = 2 * (s : Int) := by omega
  have e2 : (2 * (s : Int) + 1) % 18446744073709551616 = 2 * (s : Int) + 1 := by omega
  have e3 : (s : Int) % 18446744073709551616 = (s : Int) := by omega
  cases up
  · go_enter Tryd.func45, Tryd.ntmps45
    go_wp2_with fail
    go_ret
    exact ⟨by simp, rfl⟩
  · go_enter Tryd.func45, Tryd.ntmps45
    go_wp2_with fail
    go_ret
    exact ⟨by simp, rfl⟩
end Go.Proofs.YtbnfilhilgjnfaaDoor

namespace Go.Proofs.YtbnfilhilgjnfaaDoor
set_option linter.unusedVariables false
set_option linter.unusedSimpArgs false
open Go.ChangeShapes Go.WideShapes Go.ChangeAt Go.RowKit Go.Joins

theorem own_base {w : World} {b b' n : Nat} {v : Value} {xs : List Value} (h : w.ownsRow b 5 1 v n xs) (hb : b' ≤ b) : w.ownsRow b' 5 1 v n xs := by
  obtain ⟨h1, h2⟩ := h
  refine ⟨h1, ?_⟩
  rcases h2 with h2 | ⟨g, cap, cur, e1, e2, e3⟩
  · exact .inl h2
  · exact .inr ⟨g, cap, cur, e1, Nat.le_trans hb e2, e3⟩
theorem own_call {w w' : World} {b n : Nat} {v : Value} {xs : List Value} (h : w.ownsRow b 5 1 v n xs) (hb : Below w.heap.size w w') : w'.ownsRow b 5 1 v n xs := by
  obtain ⟨h1, h2⟩ := h
  refine ⟨h1, ?_⟩
  rcases h2 with h2 | ⟨g, cap, cur, e1, e2, e3, e4⟩
  · exact .inl h2
  · have hlt : g < w.heap.size := by
      rcases Nat.lt_or_ge g w.heap.size with hlt | hge
      · exact hlt
      · rw [Array.getElem?_eq_none hge] at e3; cases e3
    obtain ⟨_, _, _, _, hh⟩ := hb
    exact .inr ⟨g, cap, cur, e1, e2, (hh g hlt).trans e3, e4⟩
def headN (c s k : Int) : Nat → Int
  | 0 => c
  | 1 => s
  | _ => k
def headL (c s k : Int) : List Nat := putN [] (headN c s k) 3
theorem headL_len (c s k : Int) : (headL c s k).length = 24 := by rw [headL, putN_len]; rfl
theorem headL_8 (c s k : Int) : U8 (headL c s k) := putN_8 (fun y hy => by cases hy) _ 3
def onceU (s : Nat) (up : Bool) : Nat := 2 * s + (if up then 0 else 1)
theorem onceU_lt (s : Nat) (up : Bool) (h : s ≤ 1099511627776) : onceU s up < 18446744073709551616 := by unfold onceU; split <;> omega
def wrapL (key : List Nat) (up : Bool) (c : Int) (s : Nat) (k : Int) (body : List Nat) : List Nat := headL c s k ++ sealL key (onceU s up) (headL c s k) body
theorem wrapL_len (key : List Nat) (up : Bool) (c : Int) (s : Nat) (k : Int) (body : List Nat) : (wrapL key up c s k body).length = 40 + body.length := by rw [wrapL, List.length_append, headL_len, sealL_len]; omega
def WrR (key : List Nat) (kn : Nat) (up : Bool) (c : Int) (s : Nat) (k : Int) (body : List Nat) (w : World) (e : Ending) (w' : World) : Prop :=
  Below w.heap.size w w' ∧ (kn = 64 → ∃ v', e = .returned (.tuple #[v', .int .i64 0]) ∧ w'.ownsRow w.heap.size 5 1 v' (wrapL key up c s k body).length (bv (wrapL key up c s k body))) ∧ (¬ kn = 64 → e = .returned (.tuple #[.slice none 0 0, .int .i64 1]))
theorem fits0 {c s k : Int} {bn : Nat} (h : fitsE c s k bn = 0) : 1 ≤ c ∧ c ≤ 1099511627776 ∧ 0 ≤ s ∧ s ≤ 1099511627776 ∧ 0 ≤ k ∧ k ≤ 1099511627776 ∧ (s = 0 ↔ bn = 0) ∧ bn ≤ 16320 := by
  unfold fitsE at h
  split at h
  · omega
  · split at h
    · omega
    · omega
set_option maxRecDepth 100000 in
set_option maxHeartbeats 4000000 in
theorem wrap_bad (kv : Value) (up : Bool) (c s k : Int) (ba : Option Addr) (bn bc : Nat) (w : World) (hE : ¬ fitsE c s k bn = 0) :
    Calls Tryd.prog 23 #[kv, .bool up, frV c s k (.slice ba bn bc)] w fun e w' => e = .returned (.tuple #[.slice none 0 0, .int .i64 (fitsE c s k bn)]) ∧ Below w.heap.size w w' := by
  have b1 : Below w.heap.size w (w.alloc (.cells #[.int .i64 c, .int .i64 s, .int .i64 k, .slice ba bn bc] 42)) := (Below.refl _ _).alloc (Nat.le_refl _) _
  have HF := hide (ffits_any c s k ba bn bc (w.alloc (.cells #[.int .i64 c, .int .i64 s, .int .i64 k, .slice ba bn bc] 42)))
  have HB1 := hide b1
  obtain ⟨E, hEe⟩ : ∃ E, fitsE c s k bn = E := ⟨_, rfl⟩
  rw [hEe] at HF hE ⊢
  clear hEe b1
  have HNE := hide hE
  unfold frV at *
  go_enter Tryd.func23, Tryd.ntmps23
  go_wp2_with fail
  refine Calls.mono (unhide HF) ?_
  rintro e w2 ⟨rfl, b2⟩
  have HB2 := hide ((unhide HB1).trans (b2.mono (unhide HB1).size))
  clear b2 HF HB1
  go_wp2_with fail
  all_goals (first
    | (exfalso; omega)
    | (go_ret2; exact ⟨rfl, unhide HB2⟩)
    | (exfalso; simp at *; omega))

set_option maxRecDepth 100000 in
set_option maxHeartbeats 4000000 in
theorem wrap_any (ka : Option Addr) (kn kc : Nat) (up : Bool) (c : Int) (s : Nat) (k : Int) (ba : Option Addr) (bn bc : Nat) (key body : List Nat) (w : World) (hT : Lay w) (hk : Byt w (.slice ka kn kc) key) (hb : Byt w (.slice ba bn bc) body) (hk8 : U8 key) (hb8 : U8 body) (hkn : key.length = kn) (hbn : body.length = bn) (hE : fitsE c s k bn = 0) :
    Calls Tryd.prog 23 #[.slice ka kn kc, .bool up, frV c s k (.slice ba bn bc)] w fun e w' => WrR key kn up c s k body w e w' := by
  obtain ⟨i0, hi, hz0, hz1, hz2⟩ := info_parts info5
  obtain ⟨f1, f2, f3, f4, f5, f6, f7, f8⟩ := fits0 hE
  have b1 : Below w.heap.size w (w.alloc (.cells #[.int .i64 c, .int .i64 (s : Int), .int .i64 k, .slice ba bn bc] 42)) := (Below.refl _ _).alloc (Nat.le_refl _) _
  have HF := hide (ffits_any c s k ba bn bc (w.alloc (.cells #[.int .i64 c, .int .i64 (s : Int), .int .i64 k, .slice ba bn bc] 42)))
  rw [hE] at HF
  have hR := RowAt.new w 42 [.int .i64 c, .int .i64 (s : Int), .int .i64 k, .slice ba bn bc]
  have HR := hide hR
  have HB1 := hide b1
  unfold frV at *
  have HT := hide hT
  have HK := hide hk
  have HB := hide hb
  have HK8 := hide hk8
  have HB8 := hide hb8
  have HKN := hide hkn
  have HBN := hide hbn
  have HON := hide (fun w => fonce_any s up w (by omega))
  rw [show (2 * s + (if up = true then 0 else 1)) = onceU s up from rfl] at HON
  have HOL := hide (onceU_lt s up (by omega))
  obtain ⟨O, hO⟩ : ∃ x, onceU s up = x := ⟨_, rfl⟩
  rw [hO] at HON HOL
  have HOE := hide hO
  obtain ⟨HD, hHD⟩ : ∃ x, headL c s k = x := ⟨_, rfl⟩
  have HDL : Hid (HD.length = 24) := hide (by rw [← hHD, headL_len])
  have HD8 : Hid (U8 HD) := hide (hHD ▸ headL_8 c s k)
  have HWE : Hid (wrapL key up c s k body = HD ++ sealL key O HD body) := hide (by rw [wrapL, hHD, hO])
  have HPE : Hid (putN [] (headN c s k) 3 = HD) := hide hHD
  have HF6 := hide f6
  have HF4 := hide f4
  have HF2 := hide f2
  have HF8 := hide f8
  clear b1 hR hk hb hk8 hb8 hkn hbn hO hHD hE hT f1 f2 f3 f4 f5 f6 f7 f8
  go_enter Tryd.func23, Tryd.ntmps23
  go_wp2_with fail
  generalize w.alloc (.cells #[.int .i64 c, .int .i64 (s : Int), .int .i64 k, .slice ba bn bc] 42) = w1 at *
  refine Calls.mono (unhide HF) ?_
  rintro e w2 ⟨rfl, b2⟩
  have R2 := (unhide HR).below b2 (unhide HR).lt
  have c0 : w2.cell? ⟨w.heap.size, 0, none⟩ = some (.int .i64 c) := R2.cell 0
  have c1 : w2.cell? ⟨w.heap.size, 1, none⟩ = some (.int .i64 (s : Int)) := R2.cell 1
  have c2 : w2.cell? ⟨w.heap.size, 2, none⟩ = some (.int .i64 k) := R2.cell 2
  have HR2 := hide R2
  have HB2 := hide ((unhide HB1).trans (b2.mono (unhide HB1).size))
  clear b2 R2 HF HB1 HR
  go_wp2_with fail
  have b3 : Below w2.heap.size w2 (w2.alloc (.cells #[.int .i64 c, .int .i64 (s : Int), .int .i64 k] 3)) := (Below.refl _ _).alloc (Nat.le_refl _) _
  have R3 := RowAt.new w2 3 [.int .i64 c, .int .i64 (s : Int), .int .i64 k]
  have hpt := putm_any (.slice none 0 0) [] (some ⟨w2.heap.size, 0, none⟩) 3 3 (headN c s k) (w2.alloc (.cells #[.int .i64 c, .int .i64 (s : Int), .int .i64 k] 3)) (.inl ⟨rfl, rfl⟩) (by simp) (by omega)
    (.inr ⟨w2.heap.size, 0, rfl, by rw [csize_alloc]; omega, fun i hi => by
      rw [Nat.zero_add]
      match i, hi with
      | 0, _ => exact R3.cell 0
      | 1, _ => exact R3.cell 1
      | 2, _ => exact R3.cell 2⟩)
    (fun i hi => by
      match i, hi with
      | 0, _ => have := unhide HF2; show c ≤ 9223372036854775807; omega
      | 1, _ => have := unhide HF4; show (s : Int) ≤ 9223372036854775807; omega
      | 2, _ => have := unhide HF6; show k ≤ 9223372036854775807; omega)
  rw [unhide HPE, unhide HDL] at hpt
  have HPT := hide hpt
  have HR3 := hide ((unhide HR2).below b3 (unhide HR2).lt)
  have HB3 := hide ((unhide HB2).trans (b3.mono (unhide HB2).size))
  clear b3 R3 hpt c0 c1 c2 HR2 HB2 HPE
  generalize w2.alloc (.cells #[.int .i64 c, .int .i64 (s : Int), .int .i64 k] 3) = w3 at *
  refine Calls.mono (unhide HPT) ?_
  rintro e w4 ⟨v4, rfl, o4, b4⟩
  have Y4 := Byt.of_own (own_cast o4 (unhide HDL).symm rfl)
  obtain ⟨da, dc, hde⟩ := byt_shape Y4
  rw [unhide HDL] at hde
  subst hde
  have R4 := (unhide HR3).below b4 (unhide HR3).lt
  have c1 : w4.cell? ⟨w.heap.size, 1, none⟩ = some (.int .i64 (s : Int)) := R4.cell 1
  have c3 : w4.cell? ⟨w.heap.size, 3, none⟩ = some (.slice ba bn bc) := R4.cell 3
  have B4 := (unhide HB3).trans (b4.mono (unhide HB3).size)
  have HO4 := hide (own_call (own_base o4 (unhide HB3).size) ((Below.refl w4.heap.size w4).drew))
  have HY4 := hide (Y4.call ((Below.refl w4.heap.size w4).drew))
  have HB4 := hide B4.drew
  clear o4 b4 Y4 R4 B4 HPT HR3 HB3
  by_cases hk64 : kn = 64
  · subst hk64
    have HSA := hide (seal_any (.slice ka 64 kc) (.slice da 24 dc) (.slice ba bn bc) key HD body O w4.drew ((unhide HT).below (unhide HB4)) ((unhide HK).call (unhide HB4)) (unhide HY4) ((unhide HB).call (unhide HB4)) (unhide HK8) (unhide HD8) (unhide HB8) (unhide HKN) (by rw [unhide HDL]; omega) (by rw [unhide HBN]; have := unhide HF8; omega) (unhide HOL))
    rw [unhide HBN] at HSA
    go_wp2_with fail
    go_region_held (fun w' => w'.cell? ⟨w.heap.size, 1, none⟩ = some (.int .i64 (s : Int)) ∧ w'.cell? ⟨w.heap.size, 3, none⟩ = some (.slice ba bn bc))
      (first | exact ⟨c1, c3⟩ | exact ⟨k1, k3⟩)
      (first
        | (go_at_call 45; refine Calls.mono (unhide HON _) ?_; rintro e wx ⟨rfl, rfl⟩)
        | (go_at_call 44; refine Calls.mono (unhide HSA) ?_; rintro e w5 ⟨v5, rfl, o5, b5⟩; have k1 := cell_keep b5 (lt_of_cell c1) c1; have k3 := cell_keep b5 (lt_of_cell c3) c3))
    clear k1 k3
    have B5 := (unhide HB4).trans (b5.mono (unhide HB4).size)
    have Y5 : Byt w5 v5 (sealL key O HD body) := Byt.of_own (own_cast o5 (by rw [sealL_len, unhide HBN]) rfl)
    have hl5 : (sealL key O HD body).length = bn + 16 := by rw [sealL_len, unhide HBN]
    obtain ⟨ga, gc, hge⟩ := byt_shape Y5
    rw [hl5] at hge
    subst hge
    have O5 := own_call (unhide HO4) b5
    have S5 := byt_src Y5 hl5
    have L5 : (bv (sealL key O HD body)).length = (bn + 16) * 1 := by rw [bv_len, hl5]; omega
    have s5 := B5.size
    have HB5 := hide B5
    have HO5 := hide O5
    clear o5 b5 B5 Y5 hl5 HSA HO4 HY4 HB4 c1 c3
    go_wp2_with (at_builtin; refine wpList_append_src _ rfl _ _ 30 rfl w.heap.size 5 i0 (.int .u8 0) 1 1 Tryd.underlying30 hi hz0 hz1 hz2 rfl (by decide) _ _ _ rfl O5 ga (bn + 16) gc (bv (sealL key O HD body)) rfl L5 S5.1 S5.2 (bv_one _) ?c3 ?c4 s5 ?_)
    case c3 => have := unhide HF8; unfold maxLen; omega
    case c4 => have := unhide HF8; omega
    intro a7 c7 w7 O7 g7
    have HFF : Hid (w7.ownsRow w.heap.size 5 1 (.slice a7 (24 + (bn + 16)) c7) (wrapL key up c s k body).length (bv (wrapL key up c s k body)) ∧ Below w.heap.size w w7) := hide ⟨own_cast O7 (by rw [wrapL_len, unhide HBN]; omega) (by rw [unhide HWE, bv_append]), (unhide HB5).grown g7 s5 (fun k hk => ((unhide HO5).lt k hk).1)⟩
    clear O7 g7 O5 HO5 HB5 S5 L5 s5
    go_wp2_with fail
    go_ret2
    exact ⟨(unhide HFF).2, fun _ => ⟨_, rfl, (unhide HFF).1⟩, fun h => absurd rfl h⟩
  · have HSN := hide (fun (w : World) => seal_not ka kn kc (.slice da 24 dc) (.slice ba bn bc) O w hk64)
    have HNK := hide hk64
    clear hk64
    go_wp2_with fail
    go_region_held (fun w' => w'.cell? ⟨w.heap.size, 1, none⟩ = some (.int .i64 (s : Int)) ∧ w'.cell? ⟨w.heap.size, 3, none⟩ = some (.slice ba bn bc))
      (exact ⟨c1, c3⟩)
      (first
        | (go_at_call 45; refine Calls.mono (unhide HON _) ?_; rintro e wx ⟨rfl, rfl⟩)
        | (go_at_call 44; refine Calls.mono (unhide HSN _) ?_; rintro e wx ⟨rfl, rfl⟩))
    go_wp2_with fail
    go_ret2
    exact ⟨unhide HB4, fun h => absurd h (unhide HNK), fun _ => rfl⟩
end Go.Proofs.YtbnfilhilgjnfaaDoor

namespace Go.Proofs.YtbnfilhilgjnfaaDoor.Oct
set_option linter.unusedVariables false
set_option linter.unusedSimpArgs false
open Go.ChangeShapes Go.WideShapes Go.ChangeAt Go.RowKit

theorem plain_of {w : World} {a : Addr} {l : List Nat} (h : ∀ (i y : Nat), l[i]? = some y → w.cell? (a.add i) = some (.int .u8 (y : Int))) (hl : 0 < l.length) : ∃ b off, a = ⟨b, off, none⟩ := by
  obtain ⟨b, off, spot⟩ := a
  have := h 0 _ (List.getElem?_eq_getElem hl)
  have hspot : spot = none := by simpa [Addr.add] using World.cell?_spot this
  subst hspot
  exact ⟨b, off, rfl⟩

/-- a place lies in block g from o on: these bytes, so far -/
def Pl (w : World) (g o : Nat) (v : Value) (k : Nat) : Prop :=
  (w.cell? ⟨g, o, none⟩ = some v ∧ w.cell? ⟨g, o + 1, none⟩ = some (.int .i64 (k : Int)) ∧ w.frozen? ⟨g, o, none⟩ = false ∧ w.frozen? ⟨g, o + 1, none⟩ = false) ∧ g < w.heap.size
/-- only the place's two cells, and blocks behind it, have turned -/
def Moved (w w' : World) (g o : Nat) : Prop :=
  Below g w w' ∧ (∀ j, j ≠ o → j ≠ o + 1 → w'.cell? ⟨g, j, none⟩ = w.cell? ⟨g, j, none⟩) ∧ (∀ j, w'.frozen? ⟨g, j, none⟩ = w.frozen? ⟨g, j, none⟩) ∧ ∀ j, j < w.heap.size → j ≠ g → w'.heap[j]? = w.heap[j]?
theorem Moved.refl (w : World) (g o : Nat) : Moved w w g o := ⟨Below.refl _ _, fun _ _ _ => rfl, fun _ => rfl, fun _ _ _ => rfl⟩
theorem Moved.trans {a b c : World} {g o : Nat} (h : Moved a b g o) (k : Moved b c g o) : Moved a c g o :=
  ⟨h.1.trans k.1, fun j h1 h2 => (k.2.1 j h1 h2).trans (h.2.1 j h1 h2), fun j => (k.2.2.1 j).trans (h.2.2.1 j), fun j h1 h2 => (k.2.2.2 j (Nat.lt_of_lt_of_le h1 h.1.size) h2).trans (h.2.2.2 j h1 h2)⟩
theorem Moved.below {w w' : World} {g o : Nat} (hg : g < w.heap.size) (h : Below w.heap.size w w') : Moved w w' g o :=
  ⟨h.mono (Nat.le_of_lt hg), fun j _ _ => h.cell (p := ⟨g, j, none⟩) hg, fun j => h.frozen (p := ⟨g, j, none⟩) hg, fun j h1 _ => h.block j h1⟩
theorem set_other {w : World} {g i j : Nat} (v : Value) (h : i ≠ j) : (w.setCell ⟨g, i, none⟩ v).cell? ⟨g, j, none⟩ = w.cell? ⟨g, j, none⟩ := by
  apply World.cell?_setCell_other
  intro e
  injection e with _ e2 _
  exact h e2
theorem set_same {w : World} {a : Addr} {u : Value} (v : Value) (h : w.cell? a = some u) : (w.setCell a v).cell? a = some v := by
  apply World.cell?_setCell_same
  exact h
theorem Moved.set1 (w : World) (g o : Nat) (v : Value) : Moved w (w.setCell ⟨g, o + 1, none⟩ v) g o :=
  ⟨(Below.refl g w).setCell (Nat.le_refl g) v, fun j h1 h2 => set_other v (fun e => h2 e.symm), fun j => by simp, fun j _ h2 => Below.heap_setCell _ _ _ _ h2⟩
theorem Moved.set0 (w : World) (g o : Nat) (v : Value) : Moved w (w.setCell ⟨g, o, none⟩ v) g o :=
  ⟨(Below.refl g w).setCell (Nat.le_refl g) v, fun j h1 h2 => set_other v (fun e => h1 e.symm), fun j => by simp, fun j _ h2 => Below.heap_setCell _ _ _ _ h2⟩
theorem Pl.below {w w' : World} {g o k : Nat} {v : Value} (h : Pl w g o v k) (hb : Below (g + 1) w w') : Pl w' g o v k := by
  obtain ⟨⟨h0, h1, h2, h3⟩, hs⟩ := h
  refine ⟨⟨cell_keep hb (Nat.lt_succ_self _) h0, cell_keep hb (Nat.lt_succ_self _) h1, ?_, ?_⟩, Nat.lt_of_lt_of_le hs hb.size⟩
  · rw [hb.frozen (p := ⟨g, o, none⟩) (Nat.lt_succ_self _)]; exact h2
  · rw [hb.frozen (p := ⟨g, o + 1, none⟩) (Nat.lt_succ_self _)]; exact h3
theorem Byt.low {w w1 : World} {g : Nat} {v : Value} {l : List Nat} (h : Byt w v l) (hb : Below g w w1) (hg : ∀ a n cap, v = .slice (some a) n cap → 0 < n → a.block < g) : Byt w1 v l := by
  rcases h with h | ⟨a, cap, hv, h1, h2, h3⟩
  · exact .inl h
  · refine .inr ⟨a, cap, hv, h1, h2, fun i y hy => ?_⟩
    have hpos : 0 < l.length := by
      cases l with
      | nil => simp at hy
      | cons x l => simp
    have := h3 i y hy
    refine cell_keep hb ?_ this
    have hlt := hg a _ cap hv hpos
    obtain ⟨b, off, s⟩ := a
    simp only [Addr.add]
    split <;> exact hlt

theorem Pl.put {w : World} {g o k : Nat} {v : Value} (h : Pl w g o v k) (v' : Value) (k' : Nat) :
    Pl ((w.setCell ⟨g, o, none⟩ v').setCell ⟨g, o + 1, none⟩ (.int .i64 (k' : Int))) g o v' k' ∧ Moved w ((w.setCell ⟨g, o, none⟩ v').setCell ⟨g, o + 1, none⟩ (.int .i64 (k' : Int))) g o := by
  obtain ⟨⟨p0, p1, p2, p3⟩, ps⟩ := h
  refine ⟨⟨⟨?_, ?_, ?_, ?_⟩, ?_⟩, (Moved.set0 _ g o _).trans (Moved.set1 _ g o _)⟩
  · rw [set_other _ (by omega)]; exact set_same _ p0
  · refine set_same (u := .int .i64 (k : Int)) _ ?_
    rw [set_other _ (by omega)]; exact p1
  · simpa using p2
  · simpa using p3
  · simpa using ps
/-- bytes that lie below a block -/
def Low (v : Value) (g : Nat) : Prop := ∀ a n cap, v = .slice (some a) n cap → 0 < n → a.block < g
theorem Low.mono {v : Value} {g g' : Nat} (h : Low v g) (hg : g ≤ g') : Low v g' := fun a n cap e hn => Nat.lt_of_lt_of_le (h a n cap e hn) hg

theorem take_byt {w w' : World} {a : Addr} {l : List Nat} {cap k m g n o : Nat} (h : ∀ (i y : Nat), l[i]? = some y → w.cell? (a.add i) = some (.int .u8 (y : Int))) (hn : l.length = n) (hk : k + m ≤ n) (hc : n ≤ cap) (hm : cap ≤ maxLen) (hg : 0 < n → a.block < g) (hb : Moved w w' g o) :
    Byt w' (.slice (some (a.add k)) m (cap - k)) ((l.drop k).take m) := by
  have hlen : ((l.drop k).take m).length = m := by rw [List.length_take, List.length_drop]; omega
  refine .inr ⟨a.add k, cap - k, by rw [hlen], by rw [hlen]; omega, by omega, fun i y hy => ?_⟩
  have hi : i < m := by
    by_cases hi : i < m
    · exact hi
    · rw [List.getElem?_eq_none (by rw [hlen]; omega)] at hy; cases hy
  rw [List.getElem?_take_of_lt hi, List.getElem?_drop] at hy
  rw [Deep.add_add]
  have := h _ y hy
  refine cell_keep hb.1 ?_ this
  have hlt := hg (by omega)
  obtain ⟨b, off, s⟩ := a
  simp only [Addr.add]
  split <;> exact hlt

set_option maxRecDepth 100000 in
set_option maxHeartbeats 400000 in
theorem left_any (g o : Nat) (a : Option Addr) (n cap k : Nat) (w : World) (hp : Pl w g o (.slice a n cap) k) (hk : k ≤ n) (hn : n ≤ maxLen) :
    Calls Tryd.prog 57 #[.pointer (some ⟨g, o, none⟩)] w fun e w' => e = .returned (.int .i64 ((n : Int) - (k : Int))) ∧ ∃ d, w' = w.drewN d := by
  unfold maxLen at hn
  have hF := hp.1
  go_enter Tryd.func57, Tryd.ntmps57
  go_wp2_with fail
  go_quiet (fail)
  go_wp2
  go_ret
  exact ⟨rfl, nq, rfl⟩

set_option maxRecDepth 100000 in
set_option maxHeartbeats 1000000 in
theorem take_short (g o : Nat) (a : Option Addr) (n cap k : Nat) (m : Int) (w : World) (hp : Pl w g o (.slice a n cap) k) (hk : k ≤ n) (hn : n ≤ maxLen) (hm : (n : Int) - (k : Int) < m) :
    Calls Tryd.prog 79 #[.pointer (some ⟨g, o, none⟩), .int .i64 m] w fun e w' => e = .returned (.tuple #[.slice none 0 0, .int .i64 2]) ∧ ∃ d, w' = w.drewN d := by
  go_enter Tryd.func79, Tryd.ntmps79
  go_wp2_with (go_at_call 57; refine (left_any g o a n cap k _ hp hk hn).mono ?_; rintro e w' ⟨rfl, d, rfl⟩)
  go_ret2
  exact ⟨rfl, d, rfl⟩

set_option maxRecDepth 100000 in
set_option maxHeartbeats 1000000 in
theorem take_any (g o : Nat) (v : Value) (l : List Nat) (k m : Nat) (w : World) (hv : Byt w v l) (hp : Pl w g o v k) (hg : Low v g) (hl : l.length ≤ 1000000000) (hk : k + m ≤ l.length) :
    Calls Tryd.prog 79 #[.pointer (some ⟨g, o, none⟩), .int .i64 (m : Int)] w fun e w' => ∃ v', e = .returned (.tuple #[v', .int .i64 0]) ∧ Byt w' v' ((l.drop k).take m) ∧ Pl w' g o v (k + m) ∧ Moved w w' g o ∧ (∀ G, Low v G → Low v' G) := by
  have hv0 := hv
  have hfin : ∀ d, Pl ((w.drewN d).setCell ⟨g, o + 1, none⟩ (.int .i64 ((k + m : Nat) : Int))) g o v (k + m) ∧ Moved w ((w.drewN d).setCell ⟨g, o + 1, none⟩ (.int .i64 ((k + m : Nat) : Int))) g o := by
    intro d
    have hp1 : Pl (w.drewN d) g o v k := hp.below (Joins.below_draws _ _ d)
    obtain ⟨⟨p0, p1, p2, p3⟩, ps⟩ := hp1
    refine ⟨⟨⟨?_, ?_, ?_, ?_⟩, ?_⟩, (Moved.below hp.2 (Joins.below_draws _ _ d)).trans (Moved.set1 _ g o _)⟩
    · rw [set_other _ (by omega)]; exact p0
    · exact set_same _ p1
    · simpa using p2
    · simpa using p3
    · simpa using ps
  have HF := hide hfin
  clear hfin
  rcases hv with ⟨rfl, rfl⟩ | ⟨a, cap, rfl, h1, h2, h3⟩
  · have hk0 : k = 0 := by simp at hk; omega
    have hm0 : m = 0 := by simp at hk; omega
    subst hk0 hm0
    have hF := hp.1
    go_enter Tryd.func79, Tryd.ntmps79
    go_wp2_with (go_at_call 57; refine (left_any g o none 0 0 0 _ hp (Nat.le_refl _) (Nat.zero_le _)).mono ?_; rintro e w' ⟨rfl, d, rfl⟩)
    go_quiet (fail)
    go_wp2
    go_ret2
    have := unhide HF (d + nq)
    refine ⟨_, rfl, .inl ⟨rfl, rfl⟩, ?_, ?_, fun G _ a n cap e => by cases e⟩
    · have q := this.1
      simpa [World.drewN, Nat.add_assoc] using q
    · have q := this.2
      simpa [World.drewN, Nat.add_assoc] using q
  · obtain ⟨n, hn⟩ : ∃ n, l.length = n := ⟨_, rfl⟩
    rw [hn] at h1 hl hk hp hg hv0 HF ⊢
    have HN := hide hn
    have HC := hide h3
    clear h3 hn
    have hF := hp.1
    have g1 : (0 : Int) ≤ (k : Int) := by omega
    have g2 : (k : Int) ≤ (k : Int) + (m : Int) := by omega
    have g3 : (k : Int) + (m : Int) ≤ (cap : Int) := by omega
    have g4 : (k : Int) + (m : Int) ≤ (n : Int) := by omega
    go_enter Tryd.func79, Tryd.ntmps79
    go_wp2_with (go_at_call 57; refine (left_any g o (some a) n cap k _ hp (by omega) (by unfold maxLen; omega)).mono ?_; rintro e w' ⟨rfl, d, rfl⟩)
    have e1 : ((k + m : Nat) : Int) = (k : Int) + (m : Int) := by omega
    have e2 : k + m - k = m := by omega
    by_cases hcap : cap = k
    · have hm0 : m = 0 := by omega
      subst hm0
      subst hcap
      go_quiet (fail)
      go_wp2
      go_ret2
      have hh := unhide HF (d + nq)
      refine ⟨_, rfl, ?_, ?_, ?_, ?_⟩
      · exact .inr ⟨a, 0, by simp, by simp, Nat.zero_le _, fun i y hy => by simp at hy⟩
      · have q := hh.1
        simpa [World.drewN, Nat.add_assoc] using q
      · have q := hh.2
        simpa [World.drewN, Nat.add_assoc] using q
      · intro G _ a' n' cap' e hpos
        injection e with _ e3 _
        omega
    · go_quiet (fail)
      go_wp2
      go_ret2
      have hh := unhide HF (d + nq)
      have hM : Moved w ((w.drewN (d + nq)).setCell ⟨g, o + 1, none⟩ (.int .i64 ((k : Int) + (m : Int)))) g o := by
        have q := hh.2
        rw [e1] at q
        exact q
      refine ⟨_, rfl, ?_, ?_, hM, ?_⟩
      · have q := take_byt (unhide HC) (unhide HN) hk h1 h2 (fun hp => hg a n cap rfl hp) hM
        rw [← e2] at q
        simpa using q
      · have q := hh.1
        rw [e1] at q
        simpa [World.drewN, Nat.add_assoc] using q
      · intro G hG a' n' cap' e hpos
        injection e with e3 e4 _
        injection e3 with e5
        subst e5
        have hlt := hG a n cap rfl (by omega)
        obtain ⟨b, off, s⟩ := a
        simp only [Addr.add]
        split <;> exact hlt

/-- the number that bytes are -/
def numOf (l : List Nat) : Nat := l.foldl (fun u x => u * 256 + x) 0
theorem numOf_take {l : List Nat} {k y : Nat} (h : l[k]? = some y) : numOf (l.take (k + 1)) = numOf (l.take k) * 256 + y := by
  have hk : k < l.length := by
    by_cases hk : k < l.length
    · exact hk
    · rw [List.getElem?_eq_none (by omega)] at h; cases h
  rw [List.take_succ_eq_append_getElem hk, numOf, List.foldl_append]
  rw [List.getElem?_eq_getElem hk] at h
  obtain rfl := Option.some.inj h
  rfl
theorem numOf_lt (l : List Nat) (h : ∀ y ∈ l, y < 256) : numOf l < 256 ^ l.length := by
  have : ∀ (l : List Nat) (c n : Nat), c < 256 ^ n → (∀ y ∈ l, y < 256) → l.foldl (fun u x => u * 256 + x) c < 256 ^ (n + l.length) := by
    intro l
    induction l with
    | nil => intro c n hc _; simpa using hc
    | cons x l ih =>
      intro c n hc hl
      have hx := hl x (List.mem_cons_self ..)
      have := ih (c * 256 + x) (n + 1) (by rw [Nat.pow_succ]; omega) (fun y hy => hl y (List.mem_cons_of_mem _ hy))
      rw [List.length_cons, show n + (l.length + 1) = n + 1 + l.length by omega]
      exact this
  have := this l 0 0 (by decide) h
  simpa [numOf] using this
theorem or_join (u x : Nat) (hu : u < 72057594037927936) (hx : x < 256) : bits .or .u64 ((u : Int) * 256) (x : Int) = ((u * 256 + x : Nat) : Int) := by
  have e : ((u : Int) * 256) = ((u * 256 : Nat) : Int) := by omega
  rw [e, u64_or_nat _ _ (by omega) (by omega)]
  congr 1
  have h : u * 256 = u <<< 8 := by rw [Nat.shiftLeft_eq]
  rw [h, ← Nat.shiftLeft_add_eq_or_of_lt (by omega)]

theorem Pl.fresh {w : World} {v : Value} {k : Nat} : Pl (w.alloc (.cells #[v, .int .i64 (k : Int)] 82)) w.heap.size 0 v k := by
  refine ⟨⟨?_, ?_, ?_, ?_⟩, ?_⟩
  all_goals (simp [go_sem]; done)

theorem byt_len {w : World} {a : Option Addr} {n cap : Nat} {l : List Nat} (h : Byt w (.slice a n cap) l) : l.length = n := by
  rcases h with ⟨e, rfl⟩ | ⟨a', cap', e, _⟩
  · injection e with _ e2 _; exact e2.symm
  · injection e with _ e2 _; exact e2.symm

set_option maxRecDepth 100000 in
set_option maxHeartbeats 2000000 in
theorem within_any (g o : Nat) (a : Option Addr) (n cap : Nat) (l : List Nat) (k : Nat) (lo hi : Int) (w : World) (hv : Byt w (.slice a n cap) l) (hp : Pl w g o (.slice a n cap) k) (hg : Low (.slice a n cap) g) (hl : n ≤ 1000000000) (hk : k + 8 ≤ n) (h256 : ∀ y ∈ l, y < 256)
    (u : Nat) (hu : numOf ((l.drop k).take 8) = u) (hin : lo ≤ (u : Int) ∧ (u : Int) ≤ hi) (hmax : u ≤ 9223372036854775807) :
    Calls Tryd.prog 67 #[.pointer (some ⟨g, o, none⟩), .int .i64 lo, .int .i64 hi] w fun e w' => e = .returned (.tuple #[.int .i64 (u : Int), .int .i64 0]) ∧ Pl w' g o (.slice a n cap) (k + 8) ∧ Moved w w' g o := by
  have hF := hp.1
  have hgz := hp.2
  have hq := Pl.fresh (w := w) (v := .slice a n cap) (k := k)
  have hb0 : Below w.heap.size w (w.alloc (.cells #[.slice a n cap, .int .i64 (k : Int)] 82)) := (Below.refl _ _).alloc (Nat.le_refl _) _
  have hv1 := hv.call hb0
  have hg1 : Low (.slice a n cap) w.heap.size := hg.mono (Nat.le_of_lt hgz)
  have hln := byt_len hv
  have HLN := hide hln
  have HU := hide hu
  have H256 := hide h256
  have hk' : k + 8 ≤ l.length := by rw [hln]; exact hk
  have hl' : l.length ≤ 1000000000 := by rw [hln]; exact hl
  clear hu h256 hln
  go_enter Tryd.func67, Tryd.ntmps67
  go_wp2_with fail
  refine (take_any w.heap.size 0 (.slice a n cap) l k 8 _ hv1 hq hg1 hl' hk').mono ?_
  rintro e w1 ⟨v1, rfl, hv2, hq1, hm1, hg2⟩
  obtain ⟨bs, hbs⟩ : ∃ bs, (l.drop k).take 8 = bs := ⟨_, rfl⟩
  have hbl : bs.length = 8 := by rw [← hbs, List.length_take, List.length_drop]; omega
  have hb256 : ∀ y ∈ bs, y < 256 := fun y hy => unhide H256 y (List.mem_of_mem_drop (List.mem_of_mem_take (by rw [hbs]; exact hy)))
  rw [hbs] at hv2 HU
  rcases hv2 with ⟨_, h0⟩ | ⟨a2, cap2, rfl, c1, c2, c3⟩
  · rw [h0] at hbl; cases hbl
  rw [hbl] at c1 ⊢
  obtain ⟨b2, off2, rfl⟩ := plain_of c3 (by rw [hbl]; decide)
  have hbelow : Below (w.heap.size) w w1 := hb0.trans hm1.1
  have hpw1 : Pl w1 g o (.slice a n cap) k := hp.below (hbelow.mono hgz)
  have HBS := hide hbs
  have HBL := hide hbl
  have HB256 := hide hb256
  have HC3 := hide c3
  clear hbs hbl hb256 c3 hv1 hg1
  have hQF := hq1.1
  have hPF := hpw1.1
  go_wp2_with fail
  go_loop [11, 26] (fun c i => ∃ j : Nat, j ≤ 8 ∧ i = .int .i64 j ∧ c = .int .u64 ((numOf (bs.take j) : Nat) : Int)) (fun _ i => 8 - (intOf i).toNat)
  case atStart => exact ⟨0, by omega, rfl, rfl⟩
  case round =>
    obtain ⟨j, hj, rfl, rfl⟩ := hrel
    have hlt0 := numOf_lt (bs.take j) (fun y hy => unhide HB256 y (List.mem_of_mem_take hy))
    rw [List.length_take, unhide HBL] at hlt0
    by_cases hlt : j < 8
    · have hlt1 : numOf (bs.take j) < 72057594037927936 := by
        have : 256 ^ min j 8 ≤ 256 ^ 7 := Nat.pow_le_pow_right (by decide) (by omega)
        have e : (256 : Nat) ^ 7 = 72057594037927936 := by decide
        omega
      obtain ⟨y, hy⟩ : ∃ y, bs[j]? = some y := ⟨_, List.getElem?_eq_getElem (by rw [unhide HBL]; exact hlt)⟩
      have hcell := unhide HC3 j y hy
      rw [add_plain] at hcell
      have hy256 := unhide HB256 y (List.mem_of_getElem? hy)
      have hnx := numOf_take hy
      clear hlt0
      generalize numOf (bs.take j) = c at *
      have hj1 := or_join c y hlt1 hy256
      have HNX := hide hnx
      clear hnx hy
      have g1 : (0 : Int) ≤ (j : Int) := by omega
      have g2 : (j : Int) < 8 := by omega
      go_wp2_with fail
      go_round
      case rel => exact ⟨j + 1, by omega, by go_num, by rw [unhide HNX]; go_num⟩
      case measure => simp [intOf]; omega
    · have hj8 : j = 8 := by omega
      subst hj8
      have e1 : bs.take 8 = bs := List.take_of_length_le (by rw [unhide HBL]; omega)
      rw [e1, unhide HU]
      clear hlt0 e1
      have t1 : decide ((9223372036854775807 : Int) < (u : Int)) = false := by simp; omega
      have t2 : decide ((u : Int) < lo) = false := by simp; omega
      have t3 : decide (hi < (u : Int)) = false := by simp; omega
      go_wp2_with fail
      go_ret2
      refine ⟨rfl, ?_, ?_⟩
      · have q := (Pl.put hpw1 (.slice a n cap) (k + 8)).1
        simpa using q
      · refine (Moved.below hgz hbelow).trans ?_
        have q := (Pl.put hpw1 (.slice a n cap) (k + 8)).2
        simpa using q

/-- a reader in block g -/
def Rdr (w : World) (g : Nat) (v : Value) (k : Nat) (e : Int) : Prop :=
  Pl w g 0 v k ∧ w.cell? ⟨g, 2, none⟩ = some (.bool true) ∧ w.cell? ⟨g, 3, none⟩ = some (.int .i64 e) ∧ w.frozen? ⟨g, 2, none⟩ = false ∧ w.frozen? ⟨g, 3, none⟩ = false
theorem Rdr.below {w w' : World} {g k : Nat} {v : Value} {e : Int} (h : Rdr w g v k e) (hb : Below (g + 1) w w') : Rdr w' g v k e := by
  obtain ⟨h0, h1, h2, h3, h4⟩ := h
  refine ⟨h0.below hb, cell_keep hb (Nat.lt_succ_self _) h1, cell_keep hb (Nat.lt_succ_self _) h2, ?_, ?_⟩
  · rw [hb.frozen (p := ⟨g, 2, none⟩) (Nat.lt_succ_self _)]; exact h3
  · rw [hb.frozen (p := ⟨g, 3, none⟩) (Nat.lt_succ_self _)]; exact h4
theorem Rdr.moved {w w' : World} {g k k' : Nat} {v : Value} {e : Int} (h : Rdr w g v k e) (hp : Pl w' g 0 v k') (hm : Moved w w' g 0) : Rdr w' g v k' e := by
  obtain ⟨h0, h1, h2, h3, h4⟩ := h
  refine ⟨hp, ?_, ?_, ?_, ?_⟩
  · rw [hm.2.1 2 (by decide) (by decide)]; exact h1
  · rw [hm.2.1 3 (by decide) (by decide)]; exact h2
  · rw [hm.2.2.1 2]; exact h3
  · rw [hm.2.2.1 3]; exact h4
theorem Rdr.err {w : World} {g k : Nat} {v : Value} {e : Int} (h : Rdr w g v k e) (e' : Int) : Rdr (w.setCell ⟨g, 3, none⟩ (.int .i64 e')) g v k e' := by
  obtain ⟨⟨⟨p0, p1, p2, p3⟩, ps⟩, h1, h2, h3, h4⟩ := h
  refine ⟨⟨⟨?_, ?_, ?_, ?_⟩, ?_⟩, ?_, ?_, ?_, ?_⟩
  · rw [set_other _ (by decide)]; exact p0
  · rw [set_other _ (by decide)]; exact p1
  · simpa using p2
  · simpa using p3
  · simpa using ps
  · rw [set_other _ (by decide)]; exact h1
  · exact set_same _ h2
  · simpa using h3
  · simpa using h4
theorem Rdr.fresh {w : World} {v : Value} : Rdr (w.alloc (.cells #[v, .int .i64 0, .bool true, .int .i64 0] 84)) w.heap.size v 0 0 := by
  refine ⟨⟨⟨?_, ?_, ?_, ?_⟩, ?_⟩, ?_, ?_, ?_, ?_⟩
  all_goals (simp [go_sem]; done)
theorem byt_shape {w : World} {v : Value} {l : List Nat} (h : Byt w v l) : ∃ a cap, v = .slice a l.length cap := by
  rcases h with ⟨rfl, rfl⟩ | ⟨a, cap, rfl, _⟩
  · exact ⟨none, 0, rfl⟩
  · exact ⟨some a, cap, rfl⟩
theorem byt_low {w : World} {v : Value} {l : List Nat} (h : Byt w v l) : Low v w.heap.size := by
  rcases h with ⟨rfl, rfl⟩ | ⟨a, cap, rfl, h1, h2, h3⟩
  · intro a n cap e; cases e
  · intro a' n' cap' e hpos
    injection e with e1 e2 _
    injection e1 with e1
    subst e1 e2
    have := lt_of_cell (h3 0 _ (List.getElem?_eq_getElem hpos))
    obtain ⟨b, off, s⟩ := a
    simp only [Addr.add] at this
    split at this <;> exact this

set_option maxRecDepth 100000 in
set_option maxHeartbeats 1000000 in
theorem read_any (v : Value) (l : List Nat) (w : World) (hv : Byt w v l) (hl : l.length ≤ 1000000000) :
    Calls Tryd.prog 36 #[v] w fun e w' => ∃ v' g, e = .returned (.pointer (some ⟨g, 0, none⟩)) ∧ w.heap.size ≤ g ∧ Rdr w' g v' 0 0 ∧ Byt w' v' l ∧ Low v' g ∧ Below w.heap.size w w' := by
  go_enter Tryd.func36, Tryd.ntmps36
  go_wp2_with fail
  refine (clone_any v l _ hv hl).mono ?_
  rintro e w1 ⟨v1, rfl, ho1, hb1⟩
  have hB := Byt.of_own ho1
  have hlow := byt_low hB
  obtain ⟨a1, cap1, rfl⟩ := byt_shape hB
  go_wp2_with fail
  go_ret
  have hb2 : Below w1.heap.size w1 (w1.alloc (.cells #[.slice a1 l.length cap1, .int .i64 0, .bool true, .int .i64 0] 84)) := (Below.refl _ _).alloc (Nat.le_refl _) _
  exact ⟨_, w1.heap.size, rfl, hb1.size, Rdr.fresh, hB.call hb2, hlow, hb1.trans (hb2.mono hb1.size)⟩

set_option maxRecDepth 100000 in
set_option maxHeartbeats 400000 in
theorem made_any (g : Nat) (v : Value) (k : Nat) (e0 : Int) (w : World) (hr : Rdr w g v k e0) :
    Calls Tryd.prog 70 #[.pointer (some ⟨g, 0, none⟩)] w fun e w' => e = .returned (.bool true) ∧ w = w' := by
  have h2 := hr.2
  go_enter Tryd.func70, Tryd.ntmps70
  go_wp2
  go_ret
  exact ⟨rfl, rfl⟩

set_option maxRecDepth 100000 in
set_option maxHeartbeats 400000 in
theorem err_any (g : Nat) (v : Value) (k : Nat) (e0 : Int) (w : World) (hr : Rdr w g v k e0) :
    Calls Tryd.prog 56 #[.pointer (some ⟨g, 0, none⟩)] w fun e w' => e = .returned (.int .i64 e0) ∧ w = w' := by
  have h2 := hr.2
  go_enter Tryd.func56, Tryd.ntmps56
  go_wp2_with (go_at_call 70; refine (made_any g v k e0 _ hr).mono ?_; rintro e w' ⟨rfl, rfl⟩)
  go_ret
  exact ⟨rfl, rfl⟩

set_option maxRecDepth 100000 in
set_option maxHeartbeats 1000000 in
theorem Within_any (g : Nat) (a : Option Addr) (n cap : Nat) (l : List Nat) (k : Nat) (lo hi : Int) (w : World) (hv : Byt w (.slice a n cap) l) (hr : Rdr w g (.slice a n cap) k 0) (hg : Low (.slice a n cap) g) (hl : n ≤ 1000000000) (hk : k + 8 ≤ n) (h256 : ∀ y ∈ l, y < 256)
    (u : Nat) (hu : numOf ((l.drop k).take 8) = u) (hin : lo ≤ (u : Int) ∧ (u : Int) ≤ hi) (hmax : u ≤ 9223372036854775807) :
    Calls Tryd.prog 54 #[.pointer (some ⟨g, 0, none⟩), .int .i64 lo, .int .i64 hi] w fun e w' => e = .returned (.int .i64 (u : Int)) ∧ Rdr w' g (.slice a n cap) (k + 8) 0 ∧ Below g w w' := by
  have HU := hide hu
  have H256 := hide h256
  clear hu h256
  go_enter Tryd.func54, Tryd.ntmps54
  go_wp2_with fail
  refine (err_any g _ k 0 _ hr).mono ?_
  rintro e w0 ⟨rfl, rfl⟩
  go_wp2_with fail
  refine (within_any g 0 a n cap l k lo hi _ hv hr.1 hg hl hk (unhide H256) u (unhide HU) hin hmax).mono ?_
  rintro e w1 ⟨rfl, hp1, hm1⟩
  have hr1 := hr.moved hp1 hm1
  have hc := hr1.2
  go_wp2_with fail
  go_ret
  refine ⟨rfl, hr1.err 0, hm1.1.setCell (Nat.le_refl g) _⟩

end Go.Proofs.YtbnfilhilgjnfaaDoor.Oct

namespace Go.Proofs.YtbnfilhilgjnfaaDoor
set_option linter.unusedVariables false
set_option linter.unusedSimpArgs false
open Go.ChangeShapes Go.WideShapes Go.ChangeAt Go.RowKit Go.Joins

theorem results_row_tmp {P : Program} {fn : Func} {p u : Tmp} {ty : TypeId} (h : fn.results = #[.cell p ty, .tmp u]) (tmps : Array Value) (w : World) (g : Nat) (t : TypeId) (cs : Array Value) (fr : Nat × Nat) (d : TypeDesc)
    (hp : tmps.getD p undef = .pointer (some ⟨g, 0, none⟩)) (hg : w.heap[g]? = some (.cells cs t fr))
    (hu : P.underlying ty = some d) (hd : (match d with | .struct _ | .array _ _ => true | _ => false) = true) (hi : (P.info? ty).map (·.size) = some cs.size) :
    (results fn tmps).run P w = .ok (.tuple #[.agg cs, tmps.getD u undef]) w := by
  rw [results_cell_tmp h, hp]
  simp [asAddr, _root_.Go.run_loadVar_row w g t ty cs fr d hg hu hd hi, Result.andThen]
theorem z37 : (Tryd.prog.info? 42).map (·.size) = some 4 := by kernel_rfl
theorem take_piece (l : List Nat) (k : Nat) (hk : k + 8 ≤ 24) : ((l.take 24).drop k).take 8 = (l.drop k).take 8 := by
  rw [List.drop_take, List.take_take, Nat.min_eq_left (by omega)]

set_option maxRecDepth 100000 in
set_option maxHeartbeats 4000000 in
theorem peek_ok (a : Addr) (n cap : Nat) (l : List Nat) (c s k : Nat) (w : World) (hv : Byt w (.slice (some a) n cap) l) (h8 : U8 l) (hn : l.length = n) (h40 : 40 ≤ n) (hn2 : n ≤ 16360)
    (hc : Oct.numOf (l.take 8) = c) (hs : Oct.numOf ((l.drop 8).take 8) = s) (hk : Oct.numOf ((l.drop 16).take 8) = k) (c1 : 1 ≤ c) (c2 : c ≤ 1099511627776) (s2 : s ≤ 1099511627776) (k2 : k ≤ 1099511627776) (hsb : s = 0 ↔ n = 40) :
    Calls Tryd.prog 46 #[.slice (some a) n cap] w fun e w' => e = .returned (.tuple #[frV c s k (.slice none 0 0), .int .i64 0]) ∧ Below w.heap.size w w' := by
  have hcap : n ≤ cap := by
    rcases hv with ⟨e, _⟩ | ⟨a', c', e, h1, _⟩
    · cases e
    · injection e with e1 e2 e3; omega
  have hmn : min (n : Int) 24 = 24 := by omega
  have hcI : (24 : Int) ≤ (cap : Int) := by omega
  obtain ⟨m, hm⟩ : ∃ m : Nat, n - 40 = m := ⟨_, rfl⟩
  have hmI : (n : Int) - 24 - 16 = (m : Int) := by omega
  have HWI := hide (fun w => within_in (m : Int) 0 16320 w (by omega) (by omega))
  have hm0 : s = 0 ↔ m = 0 := by omega
  have HM0 := hide hm0
  clear hm hm0
  have b1 : Below w.heap.size w (w.alloc (.cells #[.int .i64 0, .int .i64 0, .int .i64 0, .slice none 0 0] 42)) := (Below.refl _ _).alloc (Nat.le_refl _) _
  have hR := RowAt.new w 42 [.int .i64 0, .int .i64 0, .int .i64 0, .slice none 0 0]
  have HR := hide hR
  have HB1 := hide b1
  have HRD := hide (Oct.read_any (.slice (some a) 24 cap) (l.take 24) (w.alloc (.cells #[.int .i64 0, .int .i64 0, .int .i64 0, .slice none 0 0] 42)) ((hv.call b1).take 24 (by omega)) (by rw [List.length_take]; omega))
  clear hR b1
  have HN24 : Hid ((l.take 24).length = 24) := hide (by rw [List.length_take]; omega)
  have H256 : Hid (∀ y ∈ l.take 24, y < 256) := hide (fun y hy => h8 y (List.mem_of_mem_take hy))
  have p1 : Oct.numOf (((l.take 24).drop 0).take 8) = c := by rw [take_piece l 0 (by omega), List.drop_zero]; exact hc
  have p2 : Oct.numOf (((l.take 24).drop 8).take 8) = s := by rw [take_piece l 8 (by omega)]; exact hs
  have p3 : Oct.numOf (((l.take 24).drop 16).take 8) = k := by rw [take_piece l 16 (by omega)]; exact hk
  have P1 := hide p1
  have P2 := hide p2
  have P3 := hide p3
  generalize l.take 24 = l24 at *
  have HC1 := hide c1
  have HC2 := hide c2
  have HS2 := hide s2
  have HK2 := hide k2
  have HSB := hide hsb
  have H40 := hide h40
  have HNN := hide hn2
  clear p1 p2 p3 hc hs hk hv h8 hn
  go_enter Tryd.func46, Tryd.ntmps46
  go_wp2_with fail
  generalize w.alloc (.cells #[.int .i64 0, .int .i64 0, .int .i64 0, .slice none 0 0] 42) = w1 at *
  refine Calls.mono (unhide HRD) ?_
  rintro e w2 ⟨v2, g, rfl, hg, r2, y2, low2, b2⟩
  obtain ⟨va, vc, hve⟩ := byt_shape y2
  rw [unhide HN24] at hve
  subst hve
  have W1 := Oct.Within_any g va 24 vc l24 0 1 1099511627776 w2 y2 r2 low2 (by omega) (by omega) (unhide H256) c (unhide P1) ⟨by have := unhide HC1; omega, by have := unhide HC2; omega⟩ (by have := unhide HC2; omega)
  have HW1 := hide W1
  have HY2 := hide y2
  have HL2 := hide low2
  have R2 := (unhide HR).below b2 (unhide HR).lt
  have HR2 := hide R2
  have HGG : Hid (w.heap.size < g) := hide (by have := (unhide HR).lt; omega)
  have HB2 := hide ((unhide HB1).trans (b2.mono (unhide HB1).size))
  clear r2 y2 low2 b2 R2 W1 HRD HR HB1 hg
  go_wp2_with fail
  refine Calls.mono (unhide HW1) ?_
  rintro e w3 ⟨rfl, r3, b3⟩
  have y3 := Oct.Byt.low (unhide HY2) b3 (unhide HL2)
  have W2 := Oct.Within_any g va 24 vc l24 8 0 1099511627776 w3 y3 r3 (unhide HL2) (by omega) (by omega) (unhide H256) s (unhide P2) ⟨by omega, by have := unhide HS2; omega⟩ (by have := unhide HS2; omega)
  have HW2 := hide W2
  have HY3 := hide y3
  have HR3 := hide ((unhide HR2).below b3 (unhide HGG))
  have HB3 := hide ((unhide HB2).trans (b3.mono (Nat.le_of_lt (unhide HGG))))
  clear r3 b3 y3 W2 HW1 HY2 HR2 HB2
  go_wp2_with fail
  refine Calls.mono (unhide HW2) ?_
  rintro e w4 ⟨rfl, r4, b4⟩
  have y4 := Oct.Byt.low (unhide HY3) b4 (unhide HL2)
  have W3 := Oct.Within_any g va 24 vc l24 16 0 1099511627776 w4 y4 r4 (unhide HL2) (by omega) (by omega) (unhide H256) k (unhide P3) ⟨by omega, by have := unhide HK2; omega⟩ (by have := unhide HK2; omega)
  have HW3 := hide W3
  have HR4 := hide ((unhide HR3).below b4 (unhide HGG))
  have HB4 := hide ((unhide HB3).trans (b4.mono (Nat.le_of_lt (unhide HGG))))
  clear r4 b4 y4 W3 HW2 HY3 HR3 HB3
  go_wp2_with fail
  refine Calls.mono (unhide HW3) ?_
  rintro e w5 ⟨rfl, r5, b5⟩
  have hg5 : g < w5.heap.size := lt_of_cell r5.2.1
  have b6 : Below w5.heap.size w5 (w5.alloc (.cells #[.int .i64 (c : Int), .int .i64 (s : Int), .int .i64 (k : Int), .slice none 0 0] 42)) := (Below.refl _ _).alloc (Nat.le_refl _) _
  have HER := hide (Oct.err_any g _ _ 0 _ (r5.below (b6.mono hg5)))
  have hF := RowAt.new w5 42 [.int .i64 (c : Int), .int .i64 (s : Int), .int .i64 (k : Int), .slice none 0 0]
  have HF := hide hF
  have HG5 := hide hg5
  have HB6 := hide b6
  clear hF hg5 b6
  have HR5 := hide ((unhide HR4).below b5 (unhide HGG))
  have HB5 := hide ((unhide HB4).trans (b5.mono (Nat.le_of_lt (unhide HGG))))
  clear r5 b5 HW3 HR4 HB4
  go_wp2_with fail
  have HB7 := hide ((unhide HB5).trans ((unhide HB6).mono (by have := unhide HG5; have := unhide HGG; omega)))
  have HR7 := hide ((unhide HR5).below (unhide HB6) (unhide HR5).lt)
  have cz0 := (unhide HF).cell 1
  obtain ⟨gf, hgf⟩ : ∃ x, w5.heap.size = x := ⟨_, rfl⟩
  have HGF : Hid (w.heap.size < gf) := hide (by have := (unhide HR5).lt; omega)
  rw [hgf] at HF cz0
  clear HR5 HB5 HB6 HG5
  generalize w5.alloc (.cells #[.int .i64 (c : Int), .int .i64 (s : Int), .int .i64 (k : Int), .slice none 0 0] 42) = w6 at *
  refine Calls.mono (unhide HER) ?_
  rintro e wx ⟨rfl, rfl⟩
  have cz : w6.cell? ⟨gf, 1, none⟩ = some (.int .i64 (s : Int)) := cz0
  rw [hgf]
  clear HER cz0
  go_wp2_with fail
  refine Calls.mono (unhide HWI _) ?_
  rintro e wx ⟨rfl, rfl⟩
  obtain ⟨E, hE⟩ : ∃ E : Array Value, ([.int .i64 (c : Int), .int .i64 (s : Int), .int .i64 (k : Int), .slice none 0 0] : List Value).toArray = E := ⟨_, rfl⟩
  obtain ⟨Z, hZ⟩ : ∃ E : Array Value, ([.int .i64 0, .int .i64 0, .int .i64 0, .slice none 0 0] : List Value).toArray = E := ⟨_, rfl⟩
  have HE1 := hide ((unhide HF).arr hE)
  have HE2 := hide ((unhide HR7).arr hZ)
  have HES : Hid (E.size = 4) := hide (by rw [← hE]; rfl)
  have HZS : Hid (Z.size = 4) := hide (by rw [← hZ]; rfl)
  have HEO : Hid (E.all (·.oneCell') = true) := hide (by rw [← hE]; simp only [List.all_toArray, List.all_cons, List.all_nil, Bool.and_true]; rfl)
  have HEE := hide hE
  clear hE hZ
  obtain ⟨b, hb1, hb2⟩ : ∃ b, ((s : Int) == 0) = b ∧ ((m : Int) == 0) = b := by
    have h0 := unhide HM0
    by_cases h : s = 0
    · have h' := h0.1 h
      subst h h'
      exact ⟨true, rfl, rfl⟩
    · have h' : ¬ m = 0 := fun e => h (h0.2 e)
      exact ⟨false, by simp [h], by simp [h']⟩
  have hbx : (b == b) = true := by cases b <;> rfl
  have hbn : (!(b == b)) = false := by cases b <;> rfl
  have hbm : (b != b) = false := by cases b <;> rfl
  go_wp2_with (first
    | (refine wpList_load_row rfl 42 _ rfl gf (by kernel_rfl) 42 E (0, 0) _ (unhide HE1) Tryd.underlying42 rfl (by rw [z37, unhide HES]) ?_)
    | (refine wpList_store_row rfl 42 _ _ rfl w.heap.size E (by kernel_rfl) (by kernel_rfl) 42 Z (unhide HE2) (by rw [z37, unhide HES]) (by rw [unhide HES, unhide HZS]) (unhide HEO) ?_))
  refine bodyPost_ret (results_row_tmp Tryd.results46 _ _ w.heap.size 42 E (0, 0) _ rfl (setRow_heap _ _ _ _ _ _ (unhide HE2)) Tryd.underlying42 rfl (by rw [z37, unhide HES])) rfl ⟨?_, ?_⟩
  · rw [← unhide HEE]
    rfl
  · exact Below.trans (unhide HB7) ⟨rfl, rfl, rfl, by simp [World.setRow], fun k hk => setRow_other _ _ _ _ (by omega)⟩
end Go.Proofs.YtbnfilhilgjnfaaDoor

namespace Go.Proofs.YtbnfilhilgjnfaaDoor
set_option linter.unusedVariables false
set_option linter.unusedSimpArgs false
open Go.ChangeShapes Go.WideShapes Go.ChangeAt Go.RowKit Go.Joins

def UnR (key : List Nat) (O : Nat) (c k : Nat) (l : List Nat) (w : World) (e : Ending) (w' : World) : Prop :=
  Below w.heap.size w w' ∧ (l.drop 24 = tagL key O (l.take 24) [] → e = .returned (.tuple #[frV c 0 k (.slice none 0 0), .int .i64 0])) ∧ (¬ l.drop 24 = tagL key O (l.take 24) [] → e = .returned (.tuple #[frV 0 0 0 (.slice none 0 0), .int .i64 121]))
set_option maxRecDepth 100000 in
set_option maxHeartbeats 4000000 in
theorem unwrap0 (ka : Option Addr) (kc : Nat) (up : Bool) (a : Addr) (cap : Nat) (key l : List Nat) (c k : Nat) (w : World) (hT : Lay w) (hK : Byt w (.slice ka 64 kc) key) (hk8 : U8 key) (hkl : key.length = 64) (hv : Byt w (.slice (some a) 40 cap) l) (h8 : U8 l) (hn : l.length = 40)
    (hc : Oct.numOf (l.take 8) = c) (hs : Oct.numOf ((l.drop 8).take 8) = 0) (hk : Oct.numOf ((l.drop 16).take 8) = k) (c1 : 1 ≤ c) (c2 : c ≤ 1099511627776) (k2 : k ≤ 1099511627776) :
    Calls Tryd.prog 24 #[.slice ka 64 kc, .bool up, .slice (some a) 40 cap] w fun e w' => UnR key (onceU 0 up) c k l w e w' := by
  obtain ⟨O, hO⟩ : ∃ x, onceU 0 up = x := ⟨_, rfl⟩
  rw [hO]
  have HOE := hide hO
  clear hO
  have hcap : 40 ≤ cap := by
    rcases hv with ⟨e, _⟩ | ⟨a', c', e, h1, _⟩
    · cases e
    · injection e with e1 e2 e3; omega
  have b1 : Below w.heap.size w (w.alloc (.cells #[.int .i64 0, .int .i64 0, .int .i64 0, .slice none 0 0] 42)) := (Below.refl _ _).alloc (Nat.le_refl _) _
  have hR := RowAt.new w 42 [.int .i64 0, .int .i64 0, .int .i64 0, .slice none 0 0]
  have HR := hide hR
  have HB1 := hide b1
  have HPK := hide (peek_ok a 40 cap l c 0 k (w.alloc (.cells #[.int .i64 0, .int .i64 0, .int .i64 0, .slice none 0 0] 42)) (hv.call b1) h8 hn (by omega) (by omega) hc hs hk c1 c2 (by omega) k2 (by simp))
  have HT := hide hT
  have HK := hide hK
  have HK8 := hide hk8
  have HKL := hide hkl
  have HV := hide hv
  have H8 := hide h8
  have HN := hide hn
  have hci : (24 : Int) ≤ (cap : Int) := by omega
  have hcn : ¬ cap = 24 := by omega
  rw [frV] at HPK
  clear hR b1 hT hK hk8 hkl hv h8 hn hc hs hk c1 c2 k2
  go_enter Tryd.func24, Tryd.ntmps24
  go_wp2_with fail
  generalize w.alloc (.cells #[.int .i64 0, .int .i64 0, .int .i64 0, .slice none 0 0] 42) = w1 at *
  refine Calls.mono (unhide HPK) ?_
  rintro e w2 ⟨rfl, b2⟩
  have HB2 := hide ((unhide HB1).trans (b2.mono (unhide HB1).size))
  have HR2 := hide ((unhide HR).below b2 (unhide HR).lt)
  clear b2 HPK HB1 HR
  have b3 : Below w2.heap.size w2 (w2.alloc (.cells #[.int .i64 (c : Int), .int .i64 0, .int .i64 (k : Int), .slice none 0 0] 42)) := (Below.refl _ _).alloc (Nat.le_refl _) _
  have hF := RowAt.new w2 42 [.int .i64 (c : Int), .int .i64 0, .int .i64 (k : Int), .slice none 0 0]
  have B3 := (unhide HB2).trans (b3.mono (unhide HB2).size)
  have R3 := (unhide HR2).below b3 (unhide HR2).lt
  have hcw : (w2.alloc (.cells #[.int .i64 (c : Int), .int .i64 0, .int .i64 (k : Int), .slice none 0 0] 42)).cell? ⟨w2.heap.size, 1, none⟩ = some (.int .i64 0) := hF.cell 1
  have HGF : Hid (w.heap.size < w2.heap.size) := hide (unhide HR2).lt
  have D3 := B3.drew
  have hsl : (l.drop 24).length = 16 := by rw [List.length_drop, unhide HN]
  have hop := open_any (.slice ka 64 kc) (.slice (some a) 24 cap) (.slice (some (a.add 24)) 16 (cap - 24)) key (l.take 24) (l.drop 24) (onceU 0 up) (w2.alloc (.cells #[.int .i64 (c : Int), .int .i64 0, .int .i64 (k : Int), .slice none 0 0] 42)).drew ((unhide HT).below D3) ((unhide HK).call D3) (((unhide HV).call D3).take 24 (by omega)) (((unhide HV).call D3).drop 24 (by omega)) (unhide HK8) (fun y hy => unhide H8 y (List.mem_of_mem_take hy)) (fun y hy => unhide H8 y (List.mem_of_mem_drop hy)) (unhide HKL) (by rw [List.length_take, unhide HN]; omega) (by rw [hsl]; omega) (by rw [hsl]; omega) (onceU_lt 0 up (by omega))
  rw [hsl, show 16 - 16 = 0 from rfl, List.take_zero, List.drop_zero] at hop
  have HOP := hide hop
  have HON := hide (fun w => fonce_any 0 up w (by omega))
  rw [show (2 * 0 + (if up = true then 0 else 1)) = onceU 0 up from rfl] at HON
  have HFr := hide hF
  have HB3 := hide D3
  have HR3 := hide (R3.below ((Below.refl _ (w2.alloc (.cells #[.int .i64 (c : Int), .int .i64 0, .int .i64 (k : Int), .slice none 0 0] 42))).drew) R3.lt)
  clear b3 B3 R3 D3 hsl hop HR2 HB2 hF
  rw [unhide HOE] at HOP HON
  obtain ⟨gf, hgf⟩ : ∃ x, w2.heap.size = x := ⟨_, rfl⟩
  rw [hgf] at HFr HGF hcw
  by_cases hq : l.drop 24 = tagL key O (l.take 24) []
  · have HQ := hide hq
    clear hq
    go_wp2_with fail
    try rw [hgf]
    generalize w2.alloc (.cells #[.int .i64 (c : Int), .int .i64 0, .int .i64 (k : Int), .slice none 0 0] 42) = w3 at *
    go_region_held (fun w' => w'.cell? ⟨gf, 1, none⟩ = some (.int .i64 0))
      (first | exact hcw | exact k4)
      (first
        | (go_at_call 45; refine Calls.mono (unhide HON _) ?_; rintro e wx ⟨rfl, rfl⟩)
        | (go_at_call 47; refine Calls.mono (unhide HOP) ?_; rintro e w4 ⟨b4, q4, q5⟩; obtain ⟨v4, rfl, o4⟩ := q4 (unhide HQ); have k4 := cell_keep b4 (lt_of_cell hcw) hcw))
    all_goals (
      have HB5 := hide ((unhide HB3).trans (b4.mono (unhide HB3).size))
      have F4 : RowAt w4 gf 42 [.int .i64 (c : Int), .int .i64 0, .int .i64 (k : Int), .slice none 0 0] := (unhide HFr).drew.below b4 (unhide HFr).drew.lt
      have R4 : RowAt w4 w.heap.size 42 [.int .i64 0, .int .i64 0, .int .i64 0, .slice none 0 0] := (unhide HR3).below b4 (unhide HR3).lt
      obtain ⟨E, hE⟩ : ∃ E : Array Value, ([.int .i64 (c : Int), .int .i64 0, .int .i64 (k : Int), .slice none 0 0] : List Value).toArray = E := ⟨_, rfl⟩
      obtain ⟨Z, hZ⟩ : ∃ E : Array Value, ([.int .i64 0, .int .i64 0, .int .i64 0, .slice none 0 0] : List Value).toArray = E := ⟨_, rfl⟩
      have HE1 := hide (F4.arr hE)
      have HE2 := hide (R4.arr hZ)
      have HES : Hid (E.size = 4) := hide (by rw [← hE]; rfl)
      have HZS : Hid (Z.size = 4) := hide (by rw [← hZ]; rfl)
      have HEO : Hid (E.all (·.oneCell') = true) := hide (by rw [← hE]; simp only [List.all_toArray, List.all_cons, List.all_nil, Bool.and_true]; rfl)
      have HZO : Hid (Z.all (·.oneCell') = true) := hide (by rw [← hZ]; simp only [List.all_toArray, List.all_cons, List.all_nil, Bool.and_true]; rfl)
      have HEE := hide hE
      have HZZ := hide hZ
      clear b4 F4 R4 q4 q5 o4 hE hZ HOP HON HB3 HR3 HFr hcw
      go_wp2_with (first
        | (refine wpList_load_row rfl 42 _ rfl gf (by kernel_rfl) 42 E (0, 0) _ (unhide HE1) Tryd.underlying42 rfl (by rw [z37, unhide HES]) ?_)
        | (refine wpList_store_row rfl 42 _ _ rfl w.heap.size E (by kernel_rfl) (by kernel_rfl) 42 Z (unhide HE2) (by rw [z37, unhide HES]) (by rw [unhide HES, unhide HZS]) (unhide HEO) ?_))
      refine bodyPost_ret (results_row_tmp Tryd.results24 _ _ w.heap.size 42 E (0, 0) _ rfl (setRow_heap _ _ _ _ _ _ (unhide HE2)) Tryd.underlying42 rfl (by rw [z37, unhide HES])) rfl ⟨?_, fun _ => ?_, fun h => absurd (unhide HQ) h⟩
      · exact Below.trans (unhide HB5) ⟨rfl, rfl, rfl, by simp [World.setRow], fun k hk => setRow_other _ _ _ _ (by omega)⟩
      · rw [← unhide HEE]
        rfl)
  · have HQ := hide hq
    clear hq
    go_wp2_with fail
    try rw [hgf]
    generalize w2.alloc (.cells #[.int .i64 (c : Int), .int .i64 0, .int .i64 (k : Int), .slice none 0 0] 42) = w3 at *
    go_region_held (fun w' => w'.cell? ⟨gf, 1, none⟩ = some (.int .i64 0))
      (first | exact hcw | exact k4)
      (first
        | (go_at_call 45; refine Calls.mono (unhide HON _) ?_; rintro e wx ⟨rfl, rfl⟩)
        | (go_at_call 47; refine Calls.mono (unhide HOP) ?_; rintro e w4 ⟨b4, q4, q5⟩; obtain rfl := q5 (unhide HQ); have k4 := cell_keep b4 (lt_of_cell hcw) hcw))
    all_goals (
      have HB5 := hide ((unhide HB3).trans (b4.mono (unhide HB3).size))
      have F4 : RowAt w4 gf 42 [.int .i64 (c : Int), .int .i64 0, .int .i64 (k : Int), .slice none 0 0] := (unhide HFr).drew.below b4 (unhide HFr).drew.lt
      have R4 : RowAt w4 w.heap.size 42 [.int .i64 0, .int .i64 0, .int .i64 0, .slice none 0 0] := (unhide HR3).below b4 (unhide HR3).lt
      obtain ⟨E, hE⟩ : ∃ E : Array Value, ([.int .i64 (c : Int), .int .i64 0, .int .i64 (k : Int), .slice none 0 0] : List Value).toArray = E := ⟨_, rfl⟩
      obtain ⟨Z, hZ⟩ : ∃ E : Array Value, ([.int .i64 0, .int .i64 0, .int .i64 0, .slice none 0 0] : List Value).toArray = E := ⟨_, rfl⟩
      have HE1 := hide (F4.arr hE)
      have HE2 := hide (R4.arr hZ)
      have HES : Hid (E.size = 4) := hide (by rw [← hE]; rfl)
      have HZS : Hid (Z.size = 4) := hide (by rw [← hZ]; rfl)
      have HEO : Hid (E.all (·.oneCell') = true) := hide (by rw [← hE]; simp only [List.all_toArray, List.all_cons, List.all_nil, Bool.and_true]; rfl)
      have HZO : Hid (Z.all (·.oneCell') = true) := hide (by rw [← hZ]; simp only [List.all_toArray, List.all_cons, List.all_nil, Bool.and_true]; rfl)
      have HEE := hide hE
      have HZZ := hide hZ
      clear b4 F4 R4 q4 q5 hE HOP HON HB3 HR3 HFr hcw HZZ
      subst hZ
      go_wp2_with (first
        | (refine wpList_store_row rfl 42 _ _ rfl w.heap.size ([.int .i64 0, .int .i64 0, .int .i64 0, .slice none 0 0] : List Value).toArray rfl rfl 42 ([.int .i64 0, .int .i64 0, .int .i64 0, .slice none 0 0] : List Value).toArray (unhide HE2) (by rw [z37, unhide HZS]) (by rw [unhide HZS]) (unhide HZO) ?_))
      refine bodyPost_ret (results_row_tmp Tryd.results24 _ _ w.heap.size 42 ([.int .i64 0, .int .i64 0, .int .i64 0, .slice none 0 0] : List Value).toArray (0, 0) _ rfl (setRow_heap _ _ _ _ _ _ (unhide HE2)) Tryd.underlying42 rfl (by rw [z37, unhide HZS])) rfl ⟨?_, fun h => absurd h (unhide HQ), fun _ => ?_⟩
      · exact Below.trans (unhide HB5) ⟨rfl, rfl, rfl, by simp [World.setRow], fun k hk => setRow_other _ _ _ _ (by omega)⟩
      · rfl)
end Go.Proofs.YtbnfilhilgjnfaaDoor

namespace Go.Proofs.YtbnfilhilgjnfaaDoor
set_option linter.unusedVariables false
set_option linter.unusedSimpArgs false
open Go.ChangeShapes Go.WideShapes Go.ChangeAt Go.RowKit Go.Joins

theorem u8_app {l m : List Nat} (h : U8 l) (h' : U8 m) : U8 (l ++ m) := by
  intro y hy
  rcases List.mem_append.1 hy with hy | hy
  · exact h y hy
  · exact h' y hy
def KK : List Nat := (keyAll (keyedL [115] (putN [] (keyN 1 2) 2)) 2).take 64
def HH : List Nat := [0, 0, 0, 0, 0, 0, 0, 2, 0, 0, 0, 0, 0, 0, 0, 0, 0, 0, 0, 0, 0, 0, 0, 3]
theorem num_head : headL 2 ((0 : Nat) : Int) 3 = HH := by kernel_rfl
set_option maxRecDepth 100000 in
theorem num_frame : decide (tagL KK 0 HH [] = tagL KK 1 HH []) = false := by kernel_rfl
theorem fkey_s (s : List Nat) (h : s = [115]) : fkeyL s 1 2 = KK := by
  subst h
  rw [fkeyL, KK]
  exact keyAll_take _ 2 253 64 (by omega)
theorem num_ne : ¬ tagL KK 0 HH [] = tagL KK 1 HH [] := of_decide_eq_false num_frame
theorem tk_nil (key : List Nat) (o : Nat) : tkL key o [] = [] := List.eq_nil_of_length_eq_zero (tkL_len key o [])
theorem wrap_parts (key : List Nat) (up : Bool) : (wrapL key up 2 0 3 []).take 24 = HH ∧ (wrapL key up 2 0 3 []).drop 24 = tagL key (onceU 0 up) HH [] := by
  have hl : HH.length = 24 := rfl
  have e : wrapL key up 2 0 3 [] = HH ++ tagL key (onceU 0 up) HH [] := by rw [wrapL, num_head, sealL, tk_nil]; rfl
  rw [e]
  exact ⟨by rw [← hl, List.take_left], by rw [← hl, List.drop_left]⟩
theorem wrap_nums (key : List Nat) (up : Bool) : Oct.numOf ((wrapL key up 2 0 3 []).take 8) = 2 ∧ Oct.numOf (((wrapL key up 2 0 3 []).drop 8).take 8) = 0 ∧ Oct.numOf (((wrapL key up 2 0 3 []).drop 16).take 8) = 3 := by
  have h := (wrap_parts key up).1
  have h0 : (wrapL key up 2 0 3 []).take 8 = HH.take 8 := by rw [← h, List.take_take, Nat.min_eq_left (by omega)]
  have h1 : ((wrapL key up 2 0 3 []).drop 8).take 8 = (HH.drop 8).take 8 := by rw [← h]; exact (take_piece _ 8 (by omega)).symm
  have h2 : ((wrapL key up 2 0 3 []).drop 16).take 8 = (HH.drop 16).take 8 := by rw [← h]; exact (take_piece _ 16 (by omega)).symm
  rw [h0, h1, h2]
  exact ⟨rfl, rfl, rfl⟩
theorem wrap_8 (key : List Nat) (up : Bool) : U8 (wrapL key up 2 0 3 []) := u8_app (headL_8 _ _ _) (u8_app (tkL_8 _ _ (fun y hy => by cases hy)) (tagL_8 _ _ _ _))
end Go.Proofs.YtbnfilhilgjnfaaDoor

namespace Go.Proofs.YtbnfilhilgjnfaaDoor
set_option linter.unusedVariables false
set_option linter.unusedSimpArgs false
open Go.ChangeShapes Go.WideShapes Go.ChangeAt Go.RowKit Go.Joins

def FLay (w : World) : Prop := Lay w ∧ FTab w
theorem FLay.below {w w' : World} (h : FLay w) (hb : Below w.heap.size w w') : FLay w' := ⟨h.1.below hb, Tab.below h.2 hb (Tab.lt h.2)⟩
theorem fits_ex : fitsE 2 ((0 : Nat) : Int) 3 0 = 0 := by decide
set_option maxRecDepth 100000 in
set_option maxHeartbeats 4000000 in
theorem fawake_any (w : World) (hT : FLay w) : Calls Tryd.prog 9 #[] w fun e w' => e = .returned (.bool true) ∧ Below w.heap.size w w' := by
  have HT := hide hT
  have HPB := hide (put_beat w hT.2)
  rw [msgBeat] at HPB
  clear hT
  go_enter Tryd.func9, Tryd.ntmps9
  go_wp2_with fail
  refine Calls.mono (unhide HPB) ?_
  rintro e w2 ⟨pa, pc, rfl, b2⟩
  have HB2 := hide b2
  clear b2 HPB
  go_wp2_with fail
  have hky := fkey_any ⟨#[115]⟩ 1 2 w2 ((unhide HT).below (unhide HB2)).1.1 (by decide) (by decide) (by decide)
  rw [fkey_s _ (show sb ⟨#[115]⟩ = [115] from rfl)] at hky
  have HKY := hide hky
  have HKL : Hid (KK.length = 64) := hide (by rw [← fkey_s [115] rfl, fkeyL_len])
  have HK8 : Hid (U8 KK) := hide (by rw [← fkey_s [115] rfl]; exact fkeyL_8 _ _ _)
  have HNE := hide num_ne
  have HWP := hide (wrap_parts KK true)
  have HWN := hide (wrap_nums KK true)
  have HW8 := hide (wrap_8 KK true)
  have HWL : Hid ((wrapL KK true 2 0 3 []).length = 40) := hide (wrapL_len _ _ _ _ _ _)
  clear hky
  obtain ⟨K, hK⟩ : ∃ x, KK = x := ⟨_, rfl⟩
  rw [hK] at HKY HKL HK8 HNE HWP HWN HW8 HWL
  have HWR := hide (fun (ka : Option Addr) (kc : Nat) (wx : World) (hk : Byt wx (.slice ka 64 kc) K) (hl : Lay wx) => wrap_any ka 64 kc true 2 0 3 none 0 0 K [] wx hl hk (.inl ⟨rfl, rfl⟩) (unhide HK8) (fun y hy => by cases hy) (unhide HKL) rfl fits_ex)
  simp only [frV, show ((0 : Nat) : Int) = 0 from rfl] at HWR
  obtain ⟨L, hL⟩ : ∃ x, wrapL K true 2 0 3 [] = x := ⟨_, rfl⟩
  have HLE := hide hL
  rw [hL] at HWP HWN HW8 HWL
  clear hK hL
  refine Calls.mono (unhide HKY) ?_
  rintro e w3 ⟨v3, rfl, y3, b3⟩
  obtain ⟨ka, kc, hke⟩ := byt_shape y3
  rw [unhide HKL] at hke
  subst hke
  have B3 := (unhide HB2).trans (b3.mono (unhide HB2).size)
  have HW3 := hide (unhide HWR ka kc w3 y3 ((unhide HT).below B3).1)
  have HY3 := hide y3
  have HB3 := hide B3
  clear y3 b3 B3 HKY HWR HB2
  go_wp2_with fail
  refine Calls.mono (unhide HW3) ?_
  rintro e w4 ⟨b4, q4, q5⟩
  obtain ⟨v4, rfl, o4⟩ := q4 rfl
  clear q4 q5
  rw [unhide HLE, unhide HWL] at o4
  have y4 : Byt w4 v4 L := Byt.of_own (own_cast o4 (unhide HWL).symm rfl)
  obtain ⟨wa, wc, hwe⟩ : ∃ wa wc, v4 = .slice (some wa) 40 wc := by
    rcases y4 with ⟨_, h⟩ | ⟨a, c, h, _⟩
    · have := unhide HWL; rw [h] at this; cases this
    · exact ⟨a, c, by rw [h, unhide HWL]⟩
  subst hwe
  have B4 := (unhide HB3).trans (b4.mono (unhide HB3).size)
  have hu1 := unwrap0 ka kc true wa wc K L 2 3 w4 ((unhide HT).below B4).1 ((unhide HY3).call b4) (unhide HK8) (unhide HKL) y4 (unhide HW8) (unhide HWL) (unhide HWN).1 (unhide HWN).2.1 (unhide HWN).2.2 (by omega) (by omega) (by omega)
  have HU1 := hide hu1
  have HU2 := hide (fun (wx : World) (hb : Below w4.heap.size w4 wx) => unwrap0 ka kc false wa wc K L 2 3 wx (((unhide HT).below B4).1.below hb) (((unhide HY3).call b4).call hb) (unhide HK8) (unhide HKL) (y4.call hb) (unhide HW8) (unhide HWL) (unhide HWN).1 (unhide HWN).2.1 (unhide HWN).2.2 (by omega) (by omega) (by omega))
  have HB4 := hide B4
  clear b4 o4 y4 B4 hu1 HW3 HY3 HB3
  go_wp2_with fail
  refine Calls.mono (unhide HU1) ?_
  rintro e w5 ⟨b5, q5, q6⟩
  have he5 := q5 (by rw [(unhide HWP).1, (unhide HWP).2])
  rw [frV, show ((2 : Nat) : Int) = 2 from rfl, show ((3 : Nat) : Int) = 3 from rfl] at he5
  subst he5
  have HB5 := hide b5
  have HB5' := hide ((unhide HB4).trans (b5.mono (unhide HB4).size))
  clear b5 q5 q6 HU1
  have b6 : Below w5.heap.size w5 (w5.alloc (.cells #[.int .i64 2, .int .i64 0, .int .i64 3, .slice none 0 0] 42)) := (Below.refl _ _).alloc (Nat.le_refl _) _
  have R6 := RowAt.new w5 42 [.int .i64 2, .int .i64 0, .int .i64 3, .slice none 0 0]
  have HU3 := hide (unhide HU2 (w5.alloc (.cells #[.int .i64 2, .int .i64 0, .int .i64 3, .slice none 0 0] 42)) ((unhide HB5).trans (b6.mono (unhide HB5).size)))
  have HR6 := hide R6
  have HB6 := hide ((unhide HB5').trans (b6.mono (unhide HB5').size))
  clear b6 R6 HU2 HB5 HB5'
  go_wp2_with fail
  obtain ⟨gx, hgx⟩ : ∃ x, w5.heap.size = x := ⟨_, rfl⟩
  rw [hgx] at HR6
  try rw [hgx]
  generalize w5.alloc (.cells #[.int .i64 2, .int .i64 0, .int .i64 3, .slice none 0 0] 42) = w6 at *
  refine Calls.mono (unhide HU3) ?_
  rintro e w7 ⟨b7, q5, q6⟩
  have he7 := q6 (by rw [(unhide HWP).1, (unhide HWP).2]; exact unhide HNE)
  rw [frV] at he7
  subst he7
  have b8 : Below w7.heap.size w7 (w7.alloc (.cells #[.int .i64 0, .int .i64 0, .int .i64 0, .slice none 0 0] 42)) := (Below.refl _ _).alloc (Nat.le_refl _) _
  have R7 := (unhide HR6).below b7 (unhide HR6).lt
  have cx : (w7.alloc (.cells #[.int .i64 0, .int .i64 0, .int .i64 0, .slice none 0 0] 42)).cell? ⟨gx, 2, none⟩ = some (.int .i64 3) := (R7.below b8 R7.lt).cell 2
  have B7 := (unhide HB6).trans (b7.mono (unhide HB6).size)
  have HB7 := hide (B7.trans (b8.mono B7.size))
  clear b8 R7 B7
  clear b7 q5 q6 HU3 HB6 HR6
  go_wp2_with fail
  go_ret
  exact ⟨rfl, unhide HB7⟩
end Go.Proofs.YtbnfilhilgjnfaaDoor

namespace Go.Proofs.YtbnfilhilgjnfaaDoor
set_option linter.unusedVariables false
set_option linter.unusedSimpArgs false
open Go.ChangeShapes Go.WideShapes Go.ChangeAt Go.RowKit Go.Joins

def flaidList : List (String × DataW Unit) := [("unicode/utf8.acceptRanges", Rows.laid_unicode_utf8_acceptRanges), ("sealskin/hash.first", Rows.laid_sealskin_hash_first), ("sealskin/hash.orders", Rows.laid_sealskin_hash_orders), ("sealskin/cipher.first", Rows.laid_sealskin_cipher_first), ("sealskin/frame.fields", Rows.laid_sealskin_frame_fields), ("sealskin/frame.most", Rows.laid_sealskin_frame_most), ("unicode/utf8.first", Rows.laid_unicode_utf8_first)]
def keepHC (x : String × DataW Unit) : Bool := x.1 == "sealskin/hash.first" || x.1 == "sealskin/hash.orders" || x.1 == "sealskin/cipher.first"
theorem keep_list : flaidList.filter keepHC = laidList := by
  simp only [flaidList, keepHC, laidList]
  rfl
theorem gFld : Tryd.prog.globalNamed "sealskin/frame.fields" = some 0 := by kernel_rfl
theorem yFld : (Tryd.prog.globals[0]?).map (·.type) = some 49 := by kernel_rfl
theorem cells3 : Tryd.prog.cellsOf 3 = 1 := by kernel_rfl
theorem cells108 : Tryd.prog.cellsOf 49 = 11 := by kernel_rfl
theorem flay_of {W : World} (h : laidMet Tryd.prog flaidList W) : FLay W := by
  refine ⟨tabs_of (keep_list ▸ laidMet.filter keepHC h), ?_⟩
  obtain ⟨g, t, cs, fuel, p, hg, hty, hvar, hd⟩ := Lib.laidMet.reads h (n := "sealskin/frame.fields") (d := Rows.laid_sealskin_frame_fields) (by simp [flaidList])
  obtain rfl := Option.some.inj (gFld.symm.trans hg)
  obtain rfl := Option.some.inj (yFld.symm.trans hty)
  have e1 : cs.toList = i64v fieldsL := Lib.cells_of_tab (zs := [0, 4, 134, 62, 12, 0, 64, 6, 135, 66, 13]) Tryd.underlying49 Tryd.underlying3 cells3 cells108 hd
  obtain ⟨t, fr, hh⟩ := var_row gFld hvar
  exact ⟨t, fr, by rw [hh, ← e1]⟩
def accCells : Array Value := #[.int .u8 128, .int .u8 191, .int .u8 160, .int .u8 191, .int .u8 128, .int .u8 159, .int .u8 144, .int .u8 191, .int .u8 128, .int .u8 143, .int .u8 0, .int .u8 0, .int .u8 0, .int .u8 0, .int .u8 0, .int .u8 0, .int .u8 0, .int .u8 0, .int .u8 0, .int .u8 0, .int .u8 0, .int .u8 0, .int .u8 0, .int .u8 0, .int .u8 0, .int .u8 0, .int .u8 0, .int .u8 0, .int .u8 0, .int .u8 0, .int .u8 0, .int .u8 0]
def ufirstIn : Obj → Obj
  | .cells _ t frozen => .cells (Go.Pinned.utf8FirstZ.map fun (n : Nat) => Value.int .u8 (n : Int)).toArray t frozen
  | o => o
def accIn : Obj → Obj
  | .cells _ t frozen => .cells accCells t frozen
  | o => o
def fldIn : Obj → Obj
  | .cells _ t frozen => .cells #[.int .i64 0, .int .i64 4, .int .i64 134, .int .i64 62, .int .i64 12, .int .i64 0, .int .i64 64, .int .i64 6, .int .i64 135, .int .i64 66, .int .i64 13] t frozen
  | o => o
def mostIn : Obj → Obj
  | .cells _ t frozen => .cells #[.int .i64 7, .int .i64 1099511627776, .int .i64 1099511627776, .int .i64 1099511627776, .int .i64 1099511627776, .int .i64 31, .int .i64 1000] t frozen
  | o => o
/-- A world for the witness: all tables as their initialisers lay them. -/
noncomputable def flaidWorld (os : Os) : World :=
  { World.holding Tryd.prog os ⟨#[], #[], []⟩ with heap := (((((((World.holding Tryd.prog os ⟨#[], #[], []⟩).heap.modify 0 fldIn).modify 1 mostIn).modify 2 ufirstIn).modify 3 accIn).modify 4 cipIn).modify 5 firstIn).modify 6 ordsIn }
end Go.Proofs.YtbnfilhilgjnfaaDoor
