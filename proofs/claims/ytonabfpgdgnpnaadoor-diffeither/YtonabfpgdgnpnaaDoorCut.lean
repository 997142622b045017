/- cut: a text's first code points, and the others. -/
import Derived.Test.YtonabfpgdgnpnaaDoorPar
import Derived.Shelf.Unicode.DecodeAny
namespace Go.Proofs.YtonabfpgdgnpnaaDoor
set_option linter.unusedVariables false
set_option linter.unusedSimpArgs false
open Go.ChangeShapes Go.WideShapes Go.ChangeAt Go.RowKit Go.Joins Go.Shelf

shelf_lay Lays.n197 Nm 197 at Tryd as Tryd.lays197
theorem fDec : Tryd.lays197_ren.f 197 = 61 := by kernel_rfl
/-- utf8's tables lie in the world -/
def UT (w : World) : Prop := Lib.Utf8Tabs (Tryd.lays197_ren.g 3) (Tryd.lays197_ren.g 4) w
theorem dec_any (s : ByteArray) (w : World) (hT : UT w) : Calls Tryd.prog 61 #[.string s] w fun e w' => e = .returned (.tuple #[.int .i32 (Lib.decodeGo s).1, .int .i64 (Lib.decodeGo s).2]) ∧ Below w.heap.size w w' := by
  have h := Any.utf8_DecodeRuneInString Tryd.lays197 s w hT
  rw [fDec] at h
  exact h
theorem UT.call {w w' : World} (h : UT w) (hb : Below w.heap.size w w') : UT w' := Utf8Tabs_below h hb
theorem extract_list (s : ByteArray) (a b : Nat) : (s.extract a b).data.toList = (s.data.toList.take b).drop a := by
  rw [ByteArray.data_extract, Array.toList_extract]
  simp [List.extract_eq_take_drop, List.take_drop]
  by_cases h : a ≤ b
  · rw [Nat.add_sub_cancel' h]
  · rw [show a + (b - a) = a by omega, List.drop_eq_nil_of_le (by simp; omega), List.drop_eq_nil_of_le (by simp; omega)]
theorem decGo_at (s : ByteArray) (pos : Nat) (h : pos < s.size) : Lib.decodeGo (s.extract pos s.size) = Utf8.decode s pos := by
  have e : (s.extract pos s.size).data.toList = s.data.toList.drop pos := by
    rw [extract_list, List.take_of_length_le (by rw [← Lib.size_eq]; exact Nat.le_refl _)]
  have hne : (s.extract pos s.size).size ≠ 0 := by
    rw [Lib.size_eq, e, List.length_drop, ← Lib.size_eq]; omega
  unfold Lib.decodeGo
  rw [if_neg hne, ← Lib.decodeL_drop, List.drop_zero, e, Lib.decodeL_drop]
theorem Tx.front {s : ByteArray} {cs : List (List UInt8)} (h : Tx s cs) (n : Nat) : Tx (s.extract 0 (placeOf cs n)) (cs.take n) :=
  ⟨h.cps.take n, by rw [extract_list, List.drop_zero]; exact take_place h n⟩
theorem Tx.back {s : ByteArray} {cs : List (List UInt8)} (h : Tx s cs) (n : Nat) : Tx (s.extract (placeOf cs n) s.size) (cs.drop n) :=
  ⟨h.cps.drop n, by rw [extract_list, List.take_of_length_le (by rw [← Lib.size_eq]; exact Nat.le_refl _)]; exact drop_place h n⟩
/-- how many code points are cut off -/
def cutK (n : Int) (cs : List (List UInt8)) : Nat := min n.toNat cs.length
set_option maxRecDepth 100000 in
set_option maxHeartbeats 4000000 in
theorem cut_any (s : ByteArray) (cs : List (List UInt8)) (n : Int) (w : World) (hT : UT w) (ht : Tx s cs) (hs : s.size ≤ 281474976710656) (hn : -9223372036854775808 ≤ n) (hn2 : n ≤ 9223372036854775807) :
    Calls Tryd.prog 41 #[.string s, .int .i64 n] w fun r w' => r = .returned (.tuple #[.string (s.extract 0 (placeOf cs (cutK n cs))), .string (s.extract (placeOf cs (cutK n cs)) s.size)]) ∧ Below w.heap.size w w' := by
  have HT := hide hT
  have HX := hide ht
  have HU := hide (ht.size)
  obtain ⟨sz, hsz⟩ : ∃ z, s.size = z := ⟨_, rfl⟩
  have hs' : sz ≤ 281474976710656 := by omega
  have hsI : (sz : Int) ≤ 281474976710656 := by omega
  have HSZ := hide hsz
  obtain ⟨K, hK⟩ : ∃ K, cutK n cs = K := ⟨_, rfl⟩
  rw [hK]
  have HK := hide hK
  clear hT ht hs hsz hK
  go_enter Tryd.func41, Tryd.ntmps41
  go_wp2_with fail
  go_loopw [1, 6] (fun nn at_ wr => ∃ k : Nat, k ≤ K ∧ nn = .int .i64 (n - (k : Int)) ∧ (∃ pk : Nat, at_ = .int .i64 (pk : Int) ∧ Hid (pk = placeOf cs k)) ∧ Hid (Below w.heap.size w wr)) (fun nn _ _ => (intOf nn).toNat)
  case atStart => exact ⟨0, by omega, by simp, ⟨0, by simp, hide (placeOf_zero cs).symm⟩, hide (Below.refl _ _)⟩
  case round =>
    obtain ⟨k, hk, rfl, ⟨pk, rfl, HP⟩, HB⟩ := hrel
    have hKdef : K = min n.toNat cs.length := (unhide HK).symm
    have hpkl : pk ≤ sz := by rw [unhide HP, ← unhide HSZ, unhide HU]; exact placeOf_le cs k
    by_cases hlt : k < K
    · have hkn : (k : Int) < n := by omega
      have hkc : k < cs.length := by omega
      obtain ⟨hnx, hin⟩ := placeOf_next (unhide HX) hkc
      rw [← unhide HP, unhide HSZ] at hin
      rw [← unhide HP] at hnx
      obtain ⟨d2, hd2⟩ : ∃ d, (Utf8.decode s pk).2 = d := ⟨_, rfl⟩
      obtain ⟨d1, hd1⟩ : ∃ d, (Utf8.decode s pk).1 = d := ⟨_, rfl⟩
      have hnl : pk + d2 ≤ sz := by rw [← hd2, ← hnx, ← unhide HSZ, unhide HU]; exact placeOf_le cs (k + 1)
      have HNX : Hid (pk + d2 = placeOf cs (k + 1)) := hide (by rw [hnx, hd2])
      have hge : decide (0 < n - (k : Int)) = true := by simp; omega
      have hin2 : decide ((pk : Int) < (sz : Int)) = true := by simp; omega
      have inI : (pk : Int) < (sz : Int) := by omega
      have inI2 : (pk : Int) ≤ (sz : Int) := by omega
      have geI : 0 < n - (k : Int) := by omega
      have HD : Hid (Calls Tryd.prog 61 #[.string (s.extract pk sz)] wr fun e w' => e = .returned (.tuple #[.int .i32 d1, .int .i64 d2]) ∧ Below wr.heap.size wr w') := hide (by
        have := dec_any (s.extract pk s.size) wr ((unhide HT).call (unhide HB))
        rw [decGo_at s pk (by rw [unhide HSZ]; exact hin), hd1, hd2, unhide HSZ] at this
        exact this)
      have hsz2 := unhide HSZ
      clear hnx hd2 hd1 hin hKdef
      go_wp2_with fail
      refine Calls.mono (unhide HD) ?_
      rintro r w2 ⟨rfl, hb2⟩
      have HB2 := hide ((unhide HB).trans (hb2.mono (unhide HB).size))
      clear hb2 HB HD HP
      go_wp2_with fail
      exact ⟨⟨k + 1, by omega, by simp; omega, ⟨pk + d2, by simp, HNX⟩, HB2⟩, by simp [intOf]; omega⟩
    · obtain rfl : K = k := by omega
      have hsz2 := unhide HSZ
      have HPE : Hid (placeOf cs K = pk) := hide (unhide HP).symm
      have pkI : (pk : Int) ≤ (sz : Int) := by omega
      by_cases hz : 0 < n - (K : Int)
      · have hpe : pk = sz := by
          have hKl : K = cs.length := by omega
          rw [unhide HP, ← unhide HSZ, unhide HU, hKl]
          unfold placeOf
          rw [List.take_of_length_le (Nat.le_refl _)]
        have hge : decide (0 < n - (K : Int)) = true := by simp; omega
        have hin2 : decide ((pk : Int) < (sz : Int)) = false := by simp; omega
        have inI : ¬ (pk : Int) < (sz : Int) := by omega
        clear hKdef HP hpe
        go_wp2_with fail
        go_quiet (fail)
        have HB2 := hide ((unhide HB).trans ((Joins.below_draws _ _ nq).mono (unhide HB).size))
        clear HB
        go_wp2_with fail
        go_ret2
        exact ⟨by rw [unhide HPE]; simp [hsz2], unhide HB2⟩
      · have hge : decide (0 < n - (K : Int)) = false := by simp; omega
        clear hKdef HP
        go_wp2_with fail
        go_quiet (fail)
        have HB2 := hide ((unhide HB).trans ((Joins.below_draws _ _ nq).mono (unhide HB).size))
        clear HB
        go_wp2_with fail
        go_ret2
        exact ⟨by rw [unhide HPE]; simp [hsz2], unhide HB2⟩
end Go.Proofs.YtonabfpgdgnpnaaDoor
