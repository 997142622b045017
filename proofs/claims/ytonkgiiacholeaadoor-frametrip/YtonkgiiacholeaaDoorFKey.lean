/- A connection's key, here and by the reference. -/
import Derived.Test.YtonkgiiacholeaaDoorKey
import Derived.Test.YtonkgiiacholeaaDoorCNums
import Derived.Test.YtonkgiiacholeaaDoorCSeal
import Derived.Test.YtonkgiiacholeaaDoorCTag
import Derived.Lib.ConvBytes
namespace Go.Proofs.YtonkgiiacholeaaDoor
set_option linter.unusedVariables false
set_option linter.unusedSimpArgs false
open Go.ChangeShapes Go.WideShapes Go.ChangeAt Go.RowKit Go.Joins

/-- a text's bytes -/
def sb (s : ByteArray) : List Nat := s.data.toList.map UInt8.toNat
theorem sb_len (s : ByteArray) : (sb s).length = s.size := by rw [sb, List.length_map]; rfl
theorem sb_8 (s : ByteArray) : U8 (sb s) := by
  intro y hy
  simp only [sb, List.mem_map] at hy
  obtain ⟨b, _, rfl⟩ := hy
  exact b.toNat_lt
theorem sb_byt (w : World) (s : ByteArray) (h : s.size ≤ maxLen) : Byt (Lib.bytesWorld w 5 s) (.slice (some ⟨w.heap.size, 0, none⟩) s.size (grownCap w s.size 0 5)) (sb s) := by
  refine .inr ⟨⟨w.heap.size, 0, none⟩, grownCap w s.size 0 5, by rw [sb_len], by rw [sb_len]; exact grownCap_ge _ _ _ _, grownCap_le_maxLen _ _ _ _ h, fun i y hy => ?_⟩
  have hi : i < s.size := by
    have := (List.getElem?_eq_some_iff.1 hy).1
    rw [sb_len] at this
    exact this
  rw [add_plain, Nat.zero_add, Lib.bytesWorld_cell w 5 s i hi]
  simp only [sb, List.getElem?_map] at hy
  obtain ⟨b, hb, rfl⟩ := Option.map_eq_some_iff.1 hy
  rw [List.getD_eq_getElem?_getD, hb]
  rfl
theorem sb_below (w : World) (s : ByteArray) : Below w.heap.size w (Lib.bytesWorld w 5 s) := by
  refine ⟨rfl, rfl, rfl, by rw [Lib.bytesWorld_size]; omega, fun k hk => Lib.bytesWorld_at_old w 5 s k hk⟩
def keyN (who conn : Int) : Nat → Int
  | 0 => who
  | _ => conn
/-- a connection's key -/
def fkeyL (sec : List Nat) (who conn : Int) : List Nat := (keyAll (keyedL sec (putN [] (keyN who conn) 2)) 255).take 64
theorem fkeyL_len (sec : List Nat) (who conn : Int) : (fkeyL sec who conn).length = 64 := by
  rw [fkeyL, List.length_take, keyAll_len]
  rfl
theorem fkeyL_8 (sec : List Nat) (who conn : Int) : U8 (fkeyL sec who conn) := fun y hy => keyAll_8 _ _ y (List.mem_of_mem_take hy)

set_option maxRecDepth 100000 in
set_option maxHeartbeats 4000000 in
theorem fkey_any (s : ByteArray) (who conn : Int) (w : World) (hT : Tabs w) (hs : s.size ≤ 100000) (hw : who ≤ 9223372036854775807) (hc : conn ≤ 9223372036854775807) :
    Calls Tryd.prog 41 #[.string s, .int .i64 who, .int .i64 conn] w fun e w' => ∃ v', e = .returned v' ∧ Byt w' v' (fkeyL (sb s) who conn) ∧ Below w.heap.size w w' := by
  have hcv := fun w' => Lib.run_convert_string_bytes (P := Tryd.prog) w' 9 22 5 s Tryd.underlying9 Tryd.underlying22 Tryd.underlying5
  have HS := hide (sb_byt w s (by unfold maxLen; omega))
  have HB := hide (sb_below w s)
  obtain ⟨FK, hFK⟩ : ∃ x, fkeyL (sb s) who conn = x := ⟨_, rfl⟩
  rw [hFK]
  have HFE : Hid (FK = (keyAll (keyedL (sb s) (putN [] (keyN who conn) 2)) 255).take 64) := hide (by rw [← hFK, fkeyL])
  clear hFK
  go_enter Tryd.func41, Tryd.ntmps41
  go_wp2_with fail
  generalize Lib.bytesWorld w 5 s = w1 at *
  clear hcv
  have b2 : Below w1.heap.size w1 (w1.alloc (.cells #[.int .i64 who, .int .i64 conn] 3)) := (Below.refl _ _).alloc (Nat.le_refl _) _
  have hcell := RowAt.new w1 3 [.int .i64 who, .int .i64 conn]
  have HPT := hide (putm_any (.slice none 0 0) [] (some ⟨w1.heap.size, 0, none⟩) 2 2 (keyN who conn) (w1.alloc (.cells #[.int .i64 who, .int .i64 conn] 3)) (.inl ⟨rfl, rfl⟩) (by simp) (by omega)
    (.inr ⟨w1.heap.size, 0, rfl, by rw [csize_alloc]; omega, fun i hi => by
      rw [Nat.zero_add]
      match i, hi with
      | 0, _ => exact hcell.cell 0
      | 1, _ => exact hcell.cell 1⟩)
    (fun i hi => by
      match i, hi with
      | 0, _ => exact hw
      | 1, _ => exact hc))
  have HB2 := hide ((unhide HB).trans (b2.mono (unhide HB).size))
  have HS2 := hide ((unhide HS).call b2)
  obtain ⟨U, hU⟩ : ∃ x, putN [] (keyN who conn) 2 = x := ⟨_, rfl⟩
  have HUL : Hid (U.length = 16) := hide (by rw [← hU, putN_len]; rfl)
  have HU8 : Hid (U8 U) := hide (hU ▸ putN_8 (fun y hy => by cases hy) _ 2)
  rw [hU] at HPT HFE
  clear hU b2 hcell
  generalize w1.alloc (.cells #[.int .i64 who, .int .i64 conn] 3) = w2 at *
  refine Calls.mono (unhide HPT) ?_
  rintro e w3 ⟨v3, rfl, o3, b3⟩
  have B3 := (unhide HB2).trans (b3.mono (unhide HB2).size)
  have hky := key_any _ v3 (sb s) U 64 w3 (hT.below B3) ((unhide HS2).call b3) (Byt.of_own o3) (sb_8 s) (unhide HU8) (by rw [sb_len]; omega) (by rw [unhide HUL]; omega) (by omega)
  rw [← unhide HFE, show ((64 : Nat) : Int) = 64 from rfl] at hky
  have HKY := hide hky
  clear hky HFE
  have HB3 := hide B3
  clear o3 b3 B3 HPT
  go_wp2_with fail
  refine Calls.mono (unhide HKY) ?_
  rintro e w4 ⟨v4, rfl, y4, b4⟩
  have HF : Hid (Byt w4 v4 FK ∧ Below w.heap.size w w4) := hide ⟨y4, (unhide HB3).trans (b4.mono (unhide HB3).size)⟩
  clear y4 b4 HKY
  go_wp2_with fail
  go_ret
  exact ⟨_, rfl, unhide HF⟩
end Go.Proofs.YtonkgiiacholeaaDoor
