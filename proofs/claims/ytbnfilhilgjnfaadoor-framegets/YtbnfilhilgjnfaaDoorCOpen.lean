/- Open. -/
import Derived.Test.YtbnfilhilgjnfaaDoorCSeal
import Derived.Test.YtbnfilhilgjnfaaDoorCEq
import Derived.Deep.RegionHeld3
namespace Go.Proofs.YtbnfilhilgjnfaaDoor
set_option linter.unusedVariables false
set_option linter.unusedSimpArgs false
open Go.ChangeShapes Go.WideShapes Go.ChangeAt Go.RowKit Go.Joins

set_option maxHeartbeats 1000000 in
theorem open_not (ka : Option Addr) (kn kc : Nat) (hv : Value) (sa : Option Addr) (sn sc once : Nat) (w : World) (h : ¬ kn = 64) :
    Calls Tryd.prog 47 #[.slice ka kn kc, .int .u64 (once : Int), hv, .slice sa sn sc] w fun e w' => e = .returned (.tuple #[.slice none 0 0, .int .i64 1]) ∧ w = w' := by
  have h1 : ¬ (kn : Int) = 64 := by omega
  go_enter Tryd.func47, Tryd.ntmps47
  go_wp2_with fail
  go_ret2
  exact ⟨rfl, rfl⟩
set_option maxHeartbeats 1000000 in
theorem open_short (ka : Option Addr) (kc : Nat) (hv : Value) (sa : Option Addr) (sn sc once : Nat) (w : World) (h : sn < 16) :
    Calls Tryd.prog 47 #[.slice ka 64 kc, .int .u64 (once : Int), hv, .slice sa sn sc] w fun e w' => e = .returned (.tuple #[.slice none 0 0, .int .i64 2]) ∧ w = w' := by
  have h1 : (sn : Int) - 16 < 0 := by omega
  go_enter Tryd.func47, Tryd.ntmps47
  go_wp2_with fail
  go_ret2
  exact ⟨rfl, rfl⟩
theorem Byt.take {w : World} {a : Addr} {n c : Nat} {l : List Nat} (h : Byt w (.slice (some a) n c) l) (i : Nat) (hi : i ≤ n) : Byt w (.slice (some a) i c) (l.take i) := by
  rcases h with ⟨h, _⟩ | ⟨a', c', h1, h2, h3, h4⟩
  · cases h
  · injection h1 with e1 e2 e3
    injection e1 with e1
    subst e1 e2 e3
    refine .inr ⟨_, _, by rw [List.length_take, Nat.min_eq_left hi], by rw [List.length_take]; omega, h3, fun j y hy => ?_⟩
    rw [List.getElem?_take] at hy
    split at hy
    · exact h4 _ y hy
    · cases hy
def OpR (key : List Nat) (once : Nat) (head hidden t : List Nat) (w : World) (e : Ending) (w' : World) : Prop :=
  Below w.heap.size w w' ∧ (t = tagL key once head hidden → ∃ v', e = .returned (.tuple #[v', .int .i64 0]) ∧ w'.ownsRow w.heap.size 5 1 v' hidden.length (bv (tkL key once hidden))) ∧ (¬ t = tagL key once head hidden → e = .returned (.tuple #[.slice none 0 0, .int .i64 121]))

set_option maxRecDepth 100000 in
set_option maxHeartbeats 4000000 in
theorem open_any (kv hv sv : Value) (key head sl : List Nat) (once : Nat) (w : World) (hT : Lay w) (hk : Byt w kv key) (hh : Byt w hv head) (hs : Byt w sv sl) (hk8 : U8 key) (hh8 : U8 head) (hs8 : U8 sl) (hkl : key.length = 64) (hhl : head.length ≤ 1000000) (hsl : sl.length ≤ 900000) (h16 : 16 ≤ sl.length) (ho : once < 18446744073709551616) :
    Calls Tryd.prog 47 #[kv, .int .u64 (once : Int), hv, sv] w fun e w' => OpR key once head (sl.take (sl.length - 16)) (sl.drop (sl.length - 16)) w e w' := by
  have HT := hide hT
  have HK := hide hk
  have HH := hide hh
  have HK8 := hide hk8
  have HH8 := hide hh8
  have HKL := hide hkl
  have HHL := hide hhl
  have HO := hide ho
  obtain ⟨ka, kc, hke⟩ := byt_shape hk
  rw [hkl] at hke
  subst hke
  obtain ⟨sn, hsn⟩ : ∃ x, sl.length = x := ⟨_, rfl⟩
  obtain ⟨sa, sc, rfl, hsc, hscm⟩ : ∃ a c, sv = .slice (some a) sn c ∧ sn ≤ c ∧ c ≤ maxLen := by
    rcases hs with ⟨h1, h2⟩ | ⟨a, c, h1, h2, h3, _⟩
    · rw [h2] at h16; simp at h16
    · exact ⟨a, c, by rw [h1, hsn], by omega, h3⟩
  have HS := hide hs
  rw [hsn] at h16 hsl ⊢
  obtain ⟨c, hc⟩ : ∃ x, sn - 16 = x := ⟨_, rfl⟩
  rw [hc]
  have ec : (sn : Int) - 16 = (c : Int) := by omega
  have hcb : c ≤ 900000 := by omega
  have c1 : (0 : Int) ≤ (c : Int) := by omega
  have c2 : (c : Int) ≤ (sn : Int) := by omega
  have c3 : (sn : Int) ≤ (sc : Int) := by omega
  have c4 : ¬ sc = c := by omega
  have c5 : sn - c = 16 := by omega
  have c6 : c ≤ sn := by omega
  have c7 : (c : Int) ≤ (sc : Int) := by omega
  have c8 : c ≤ sc := by omega
  have hscb : sc ≤ 9223372036854775807 := by unfold maxLen at hscm; omega
  have HSN := hide hsn
  obtain ⟨hd, hhd⟩ : ∃ x, sl.take c = x := ⟨_, rfl⟩
  obtain ⟨t, htt⟩ : ∃ x, sl.drop c = x := ⟨_, rfl⟩
  rw [hhd, htt]
  have HHD8 : Hid (U8 hd) := hide (fun y hy => hs8 y (List.mem_of_mem_take (hhd ▸ hy)))
  have HT8 : Hid (U8 t) := hide (fun y hy => hs8 y (List.mem_of_mem_drop (htt ▸ hy)))
  have HHDL : Hid (hd.length = c) := hide (by rw [← hhd, List.length_take, hsn]; omega)
  have HD0 : Byt w (.slice (some sa) c sc) hd := hhd ▸ hs.take c c6
  have HT0 : Byt w (.slice (some (sa.add c)) 16 (sc - c)) t := by
    have := hs.drop c c6
    rw [c5, htt] at this
    exact this
  have HTG := hide (tag_any (.slice ka 64 kc) hv (.slice (some sa) c sc) key head hd once w.drew hT.1 hk hh HD0 hk8 hh8 (unhide HHD8) hkl hhl (by rw [unhide HHDL]; omega) ho)
  have HTB := hide HT0
  have HDB := hide HD0
  have HBD : Hid (Below w.heap.size w w.drew) := hide (Below.refl _ _).drew
  clear hT hk hh hs hk8 hh8 hs8 hkl hhl hsl ho hsn hhd htt HD0 HT0 h16 hc
  have HEQ := hide (p := ∀ (w2 : World) (gs : Nat), RowAt w2 gs 90 (bv (sumT key once head hd)) → Below w.heap.size w w2 → Calls Tryd.prog 64 #[.slice (some (sa.add c)) 16 (sc - c), .slice (some ⟨gs, 0, none⟩) 16 32] w2 fun e w' => e = .returned (.bool (decide (t = tagL key once head hd))) ∧ w2 = w') (by
    intro w2 gs r2 B2
    have TB : Byt w2 (.slice (some ⟨gs, 0, none⟩) 16 32) (tagL key once head hd) := .inr ⟨⟨gs, 0, none⟩, 32, by rw [tagL_len], by rw [tagL_len]; omega, by decide, fun i y hy => by
      rw [tagL, List.getElem?_take] at hy
      split at hy
      · rw [add_plain, Nat.zero_add, r2.cell, bv, List.getElem?_map, hy]; rfl
      · cases hy⟩
    exact equal_all (.slice (some (sa.add c)) 16 (sc - c)) (.slice (some ⟨gs, 0, none⟩) 16 32) t (tagL key once head hd) w2 ((unhide HTB).call B2) TB (unhide HT8) (tagL_8 _ _ _ _))
  by_cases heq : t = tagL key once head hd
  · have hdt : decide (t = tagL key once head hd) = true := decide_eq_true heq
    rw [hdt] at HEQ
    have HQ := hide heq
    clear heq hdt
    go_enter Tryd.func47, Tryd.ntmps47
    go_wp2_with fail
    go_region_held3 (fun w' => True) (trivial)
      (first
        | (go_at_call 63; refine Calls.mono (unhide HTG) ?_; rintro e w2 ⟨gs, rfl, hgs, r2, b2⟩; have k2 := (unhide HBD).trans (b2.mono (unhide HBD).size))
        | (go_at_call 64; refine Calls.mono (unhide HEQ w2 gs r2 k2) ?_; rintro e wx ⟨rfl, rfl⟩))
    have HB2 := hide k2
    clear k2 r2 b2 hgs HTG HEQ
    have HTU := hide (turned_any (.slice ka 64 kc) (.slice (some sa) c sc) key hd once 0 w2 ((unhide HT).below (unhide HB2)).2 ((unhide HK).call (unhide HB2)) ((unhide HDB).call (unhide HB2)) (unhide HK8) (unhide HHD8) (by rw [unhide HKL]; omega) (by rw [unhide HHDL]; omega) (by omega) (unhide HO))
    go_wp2_with fail
    refine Calls.mono (unhide HTU) ?_
    rintro e w3 ⟨g, rfl, hg, r3, b3⟩
    have B3 := (unhide HB2).trans (b3.mono (unhide HB2).size)
    have HO3 := hide (own_row (B := w.heap.size) r3 (turnL_len _ _) (Nat.le_trans (unhide HB2).size hg) (by rw [unhide HHDL]; unfold maxLen; omega))
    have HB3 := hide B3
    clear b3 B3 r3 hg HTU
    go_wp2_with fail
    go_ret2
    exact ⟨unhide HB3, fun _ => ⟨_, rfl, unhide HO3⟩, fun h => absurd (unhide HQ) h⟩
  · have hdt : decide (t = tagL key once head hd) = false := decide_eq_false heq
    rw [hdt] at HEQ
    have HQ := hide heq
    clear heq hdt
    go_enter Tryd.func47, Tryd.ntmps47
    go_wp2_with fail
    go_region_held3 (fun w' => True) (trivial)
      (first
        | (go_at_call 63; refine Calls.mono (unhide HTG) ?_; rintro e w2 ⟨gs, rfl, hgs, r2, b2⟩; have k2 := (unhide HBD).trans (b2.mono (unhide HBD).size))
        | (go_at_call 64; refine Calls.mono (unhide HEQ w2 gs r2 k2) ?_; rintro e wx ⟨rfl, rfl⟩))
    have HB2 := hide k2
    clear k2 r2 b2 hgs HTG HEQ
    go_wp2_with fail
    go_ret2
    exact ⟨unhide HB2, fun h => absurd h (unhide HQ), fun _ => rfl⟩
end Go.Proofs.YtbnfilhilgjnfaaDoor
