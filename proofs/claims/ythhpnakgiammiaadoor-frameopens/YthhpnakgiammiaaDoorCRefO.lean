/- The reference's Open. -/
import Derived.Test.YthhpnakgiammiaaDoorCRefG
import Derived.Test.YthhpnakgiammiaaDoorCOpen
namespace Go.Proofs.YthhpnakgiammiaaDoor
set_option linter.unusedVariables false
set_option linter.unusedSimpArgs false
open Go.ChangeShapes Go.WideShapes Go.ChangeAt Go.RowKit Go.Joins

theorem ropen_not (ka : Option Addr) (kn kc : Nat) (hv : Value) (sa : Option Addr) (sn sc once : Nat) (w : World) (h : ¬ kn = 64) :
    Calls Tryd.prog 18 #[.slice ka kn kc, .int .u64 (once : Int), hv, .slice sa sn sc] w fun e w' => e = .returned (.tuple #[.slice none 0 0, .int .i64 1]) ∧ w = w' := by
  have h1 : ¬ (kn : Int) = 64 := by omega
  go_enter Tryd.func18, Tryd.ntmps18
  go_wp2_with fail
  all_goals (first | (exfalso; omega) | (go_ret2; exact ⟨rfl, rfl⟩))
theorem ropen_short (ka : Option Addr) (kc : Nat) (hv : Value) (sa : Option Addr) (sn sc once : Nat) (w : World) (h : sn < 16) :
    Calls Tryd.prog 18 #[.slice ka 64 kc, .int .u64 (once : Int), hv, .slice sa sn sc] w fun e w' => e = .returned (.tuple #[.slice none 0 0, .int .i64 2]) ∧ w = w' := by
  have h1 : (sn : Int) < 16 := by omega
  go_enter Tryd.func18, Tryd.ntmps18
  go_wp2_with fail
  all_goals (first | (exfalso; omega) | (go_ret2; exact ⟨rfl, rfl⟩))

set_option maxRecDepth 100000 in
set_option maxHeartbeats 4000000 in
theorem ropen_any (kv hv sv : Value) (key head sl : List Nat) (once : Nat) (w : World) (hk : Byt w kv key) (hh : Byt w hv head) (hs : Byt w sv sl) (hk8 : U8 key) (hh8 : U8 head) (hs8 : U8 sl) (hkl : key.length = 64) (hhl : head.length ≤ 450000) (hsl : sl.length ≤ 450000) (h16 : 16 ≤ sl.length) (ho : once < 18446744073709551616) :
    Calls Tryd.prog 18 #[kv, .int .u64 (once : Int), hv, sv] w fun e w' => OpR key once head (sl.take (sl.length - 16)) (sl.drop (sl.length - 16)) w e w' := by
  obtain ⟨ka, kc, hke⟩ := byt_shape hk
  rw [hkl] at hke
  subst hke
  obtain ⟨sn, hsn⟩ : ∃ x, sl.length = x := ⟨_, rfl⟩
  rw [hsn] at hsl h16 ⊢
  obtain ⟨sa, sc, rfl, hsc⟩ : ∃ sa sc, sv = .slice (some sa) sn sc ∧ sn ≤ sc := by
    rcases hs with ⟨h1, h2⟩ | ⟨a, c, h1, h2, _⟩
    · rw [h2] at hsn; simp at hsn; omega
    · exact ⟨a, c, by rw [h1, hsn], by omega⟩
  obtain ⟨c, hc⟩ : ∃ c, sn - 16 = c := ⟨_, rfl⟩
  rw [hc]
  have hcI : (sn : Int) - 16 = (c : Int) := by omega
  have hTB := hs.drop c (by omega)
  have hHB := hs.take c (by omega)
  obtain ⟨t, ht⟩ : ∃ t, sl.drop c = t := ⟨_, rfl⟩
  obtain ⟨hd, hhd⟩ : ∃ x, sl.take c = x := ⟨_, rfl⟩
  rw [ht] at hTB
  rw [hhd] at hHB
  rw [ht, hhd]
  have HHL9 : Hid (hd.length = c) := hide (by rw [← hhd, List.length_take]; omega)
  have HTL : Hid (t.length = 16) := hide (by rw [← ht, List.length_drop]; omega)
  have HT8 : Hid (U8 t) := hide (ht ▸ u8_drop hs8 c)
  have HH8' : Hid (U8 hd) := hide (hhd ▸ u8_take hs8 c)
  have hsub : sn - c = 16 := by omega
  rw [hsub] at hTB
  have HTG := hide (rtag_any (.slice ka 64 kc) hv (.slice (some sa) c sc) key head hd once w.drew hk hh hHB hk8 hh8 (unhide HH8') hkl hhl (by rw [unhide HHL9]; omega) ho)
  have HTB := hide hTB
  have HRT := hide (fun wx (hb : Below w.heap.size w wx) => rturn_any (.slice ka 64 kc) (.slice (some sa) c sc) key hd once wx (hk.call hb) (hHB.call hb) hk8 (unhide HH8') (by omega) (by rw [unhide HHL9]; omega) ho)
  rw [unhide HHL9] at HRT
  have hg1 : ¬ (sn : Int) < 16 := by omega
  have hg2 : c ≤ sc := by omega
  have hg3 : c ≤ sn := by omega
  have hg4 : sn ≤ sc := hsc
  have hg5 : c ≤ 450000 := by omega
  have hg8 : ¬ sc = c := by omega
  have hg6 : (c : Int) ≤ (sc : Int) := by omega
  have hg7 : (c : Int) ≤ (sn : Int) := by omega
  clear hk hh hs hk8 hh8 hs8 hkl hhl hsl hTB hHB ht hhd
  have kbd : Below w.heap.size w w.drew := (Below.refl _ _).drew
  have HCV := hide (p := ∀ w', Below w.heap.size w w' → (convert 22 9 (.slice (some (sa.add c)) 16 (sc - c))).run Tryd.prog w' = .ok (.string (strOf t)) w') (fun w' hb => byt_convert ((unhide HTB).call hb) (unhide HT8))
  have HCT := hide (p := ∀ w2 v2, World.ownsRow w2 w.drew.heap.size 5 1 v2 16 (bv (tagL key once head hd)) → (convert 22 9 v2).run Tryd.prog w2 = .ok (.string (strOf (tagL key once head hd))) w2) (fun w2 v2 o2 => byt_convert (Byt.of_own (own_cast o2 (tagL_len _ _ _ _).symm rfl)) (tagL_8 _ _ _ _))
  have hse := str_eq (tagL key once head hd) t (tagL_8 _ _ _ _) (unhide HT8)
  by_cases heq : t = tagL key once head hd
  · have hdt : decide (tagL key once head hd = t) = true := decide_eq_true heq.symm
    rw [hdt] at hse
    have HQ := hide heq
    clear heq hdt
    go_enter Tryd.func18, Tryd.ntmps18
    go_wp2_with fail
    go_region_held (fun w' => (convert 22 9 (.slice (some (sa.add c)) 16 (sc - c))).run Tryd.prog w' = .ok (.string (strOf t)) w')
      (exact unhide HCV _ (by assumption))
      (first
        | (go_at_call 36; refine Calls.mono (unhide HTG) ?_; rintro e w2 ⟨v2, rfl, o2, b2⟩; have k2 := kbd.trans (b2.mono kbd.size); have ct := unhide HCT w2 v2 o2))
    all_goals (
      have HB2 := hide k2
      have HRU := hide (unhide HRT w2 k2)
      clear k2 o2 b2 ct HTG HCV HCT
      go_wp2_with fail
      refine Calls.mono (unhide HRU) ?_
      rintro e w3 ⟨v3, rfl, o3, b3⟩
      have HB3 := hide ((unhide HB2).trans (b3.mono (unhide HB2).size))
      have HO3 := hide (own_base o3 (unhide HB2).size)
      clear o3 b3 HRU
      go_wp2_with fail
      go_ret2
      exact ⟨unhide HB3, fun _ => ⟨_, rfl, by rw [unhide HHL9]; exact unhide HO3⟩, fun h => absurd (unhide HQ) h⟩)
  · have hdt : decide (tagL key once head hd = t) = false := decide_eq_false (fun e => heq e.symm)
    rw [hdt] at hse
    have HQ := hide heq
    clear heq hdt
    go_enter Tryd.func18, Tryd.ntmps18
    go_wp2_with fail
    go_region_held (fun w' => (convert 22 9 (.slice (some (sa.add c)) 16 (sc - c))).run Tryd.prog w' = .ok (.string (strOf t)) w')
      (exact unhide HCV _ (by assumption))
      (first
        | (go_at_call 36; refine Calls.mono (unhide HTG) ?_; rintro e w2 ⟨v2, rfl, o2, b2⟩; have k2 := kbd.trans (b2.mono kbd.size); have ct := unhide HCT w2 v2 o2))
    all_goals (
      have HB2 := hide k2
      clear k2 o2 b2 ct HTG HCV HCT
      go_wp2_with fail
      go_ret2
      exact ⟨unhide HB2, fun h => absurd h (unhide HQ), fun _ => rfl⟩)
end Go.Proofs.YthhpnakgiammiaaDoor
