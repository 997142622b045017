/- Frames as bytes: Wrap. -/
import Derived.Test.YtonkgiiacholeaaDoorFFits
import Derived.Test.YtonkgiiacholeaaDoorCSeal
import Derived.Deep.RegionHeld3
namespace Go.Proofs.YtonkgiiacholeaaDoor
set_option linter.unusedVariables false
set_option linter.unusedSimpArgs false
open Go.ChangeShapes Go.WideShapes Go.ChangeAt Go.RowKit Go.Joins

theorem own_base {w : World} {b b' n : Nat} {v : Value} {xs : List Value} (h : w.ownsRow b 5 1 v n xs) (hb : b' ≤ b) : w.ownsRow b' 5 1 v n xs := by
  obtain ⟨h1, h2⟩ := h
  refine ⟨h1, ?_⟩
  rcases h2 with h2 | ⟨g, cap, cur, e1, e2, e3⟩
  · exact .inl h2
  · exact .inr ⟨g, cap, cur, e1, Nat.le_trans hb e2, e3⟩
theorem own_call {w w' : World} {b n : Nat} {v : Value} {xs : List Value} (h : w.ownsRow b 5 1 v n xs) (hb : Below w.heap.size w w') : w'.ownsRow b 5 1 v n xs := by
  obtain ⟨h1, h2⟩ := h
  refine ⟨h1, ?_⟩
  rcases h2 with h2 | ⟨g, cap, cur, e1, e2, e3, e4⟩
  · exact .inl h2
  · have hlt : g < w.heap.size := by
      rcases Nat.lt_or_ge g w.heap.size with hlt | hge
      · exact hlt
      · rw [Array.getElem?_eq_none hge] at e3; cases e3
    obtain ⟨_, _, _, _, hh⟩ := hb
    exact .inr ⟨g, cap, cur, e1, e2, (hh g hlt).trans e3, e4⟩
def headN (c s k : Int) : Nat → Int
  | 0 => c
  | 1 => s
  | _ => k
def headL (c s k : Int) : List Nat := putN [] (headN c s k) 3
theorem headL_len (c s k : Int) : (headL c s k).length = 24 := by rw [headL, putN_len]; rfl
theorem headL_8 (c s k : Int) : U8 (headL c s k) := putN_8 (fun y hy => by cases hy) _ 3
def onceU (s : Nat) (up : Bool) : Nat := 2 * s + (if up then 0 else 1)
theorem onceU_lt (s : Nat) (up : Bool) (h : s ≤ 1099511627776) : onceU s up < 18446744073709551616 := by unfold onceU; split <;> omega
def wrapL (key : List Nat) (up : Bool) (c : Int) (s : Nat) (k : Int) (body : List Nat) : List Nat := headL c s k ++ sealL key (onceU s up) (headL c s k) body
theorem wrapL_len (key : List Nat) (up : Bool) (c : Int) (s : Nat) (k : Int) (body : List Nat) : (wrapL key up c s k body).length = 40 + body.length := by rw [wrapL, List.length_append, headL_len, sealL_len]; omega
def WrR (key : List Nat) (kn : Nat) (up : Bool) (c : Int) (s : Nat) (k : Int) (body : List Nat) (w : World) (e : Ending) (w' : World) : Prop :=
  Below w.heap.size w w' ∧ (kn = 64 → ∃ v', e = .returned (.tuple #[v', .int .i64 0]) ∧ w'.ownsRow w.heap.size 5 1 v' (wrapL key up c s k body).length (bv (wrapL key up c s k body))) ∧ (¬ kn = 64 → e = .returned (.tuple #[.slice none 0 0, .int .i64 1]))
theorem fits0 {c s k : Int} {bn : Nat} (h : fitsE c s k bn = 0) : 1 ≤ c ∧ c ≤ 1099511627776 ∧ 0 ≤ s ∧ s ≤ 1099511627776 ∧ 0 ≤ k ∧ k ≤ 1099511627776 ∧ (s = 0 ↔ bn = 0) ∧ bn ≤ 16320 := by
  unfold fitsE at h
  split at h
  · omega
  · split at h
    · omega
    · omega
set_option maxRecDepth 100000 in
set_option maxHeartbeats 4000000 in
theorem wrap_bad (kv : Value) (up : Bool) (c s k : Int) (ba : Option Addr) (bn bc : Nat) (w : World) (hE : ¬ fitsE c s k bn = 0) :
    Calls Tryd.prog 15 #[kv, .bool up, frV c s k (.slice ba bn bc)] w fun e w' => e = .returned (.tuple #[.slice none 0 0, .int .i64 (fitsE c s k bn)]) ∧ Below w.heap.size w w' := by
  have b1 : Below w.heap.size w (w.alloc (.cells #[.int .i64 c, .int .i64 s, .int .i64 k, .slice ba bn bc] 24)) := (Below.refl _ _).alloc (Nat.le_refl _) _
  have HF := hide (ffits_any c s k ba bn bc (w.alloc (.cells #[.int .i64 c, .int .i64 s, .int .i64 k, .slice ba bn bc] 24)))
  have HB1 := hide b1
  obtain ⟨E, hEe⟩ : ∃ E, fitsE c s k bn = E := ⟨_, rfl⟩
  rw [hEe] at HF hE ⊢
  clear hEe b1
  have HNE := hide hE
  unfold frV at *
  go_enter Tryd.func15, Tryd.ntmps15
  go_wp2_with fail
  refine Calls.mono (unhide HF) ?_
  rintro e w2 ⟨rfl, b2⟩
  have HB2 := hide ((unhide HB1).trans (b2.mono (unhide HB1).size))
  clear b2 HF HB1
  go_wp2_with fail
  all_goals (first
    | (exfalso; omega)
    | (go_ret2; exact ⟨rfl, unhide HB2⟩)
    | (exfalso; simp at *; omega))

set_option maxRecDepth 100000 in
set_option maxHeartbeats 4000000 in
theorem wrap_any (ka : Option Addr) (kn kc : Nat) (up : Bool) (c : Int) (s : Nat) (k : Int) (ba : Option Addr) (bn bc : Nat) (key body : List Nat) (w : World) (hT : Lay w) (hk : Byt w (.slice ka kn kc) key) (hb : Byt w (.slice ba bn bc) body) (hk8 : U8 key) (hb8 : U8 body) (hkn : key.length = kn) (hbn : body.length = bn) (hE : fitsE c s k bn = 0) :
    Calls Tryd.prog 15 #[.slice ka kn kc, .bool up, frV c s k (.slice ba bn bc)] w fun e w' => WrR key kn up c s k body w e w' := by
  obtain ⟨i0, hi, hz0, hz1, hz2⟩ := info_parts info5
  obtain ⟨f1, f2, f3, f4, f5, f6, f7, f8⟩ := fits0 hE
  have b1 : Below w.heap.size w (w.alloc (.cells #[.int .i64 c, .int .i64 (s : Int), .int .i64 k, .slice ba bn bc] 24)) := (Below.refl _ _).alloc (Nat.le_refl _) _
  have HF := hide (ffits_any c s k ba bn bc (w.alloc (.cells #[.int .i64 c, .int .i64 (s : Int), .int .i64 k, .slice ba bn bc] 24)))
  rw [hE] at HF
  have hR := RowAt.new w 24 [.int .i64 c, .int .i64 (s : Int), .int .i64 k, .slice ba bn bc]
  have HR := hide hR
  have HB1 := hide b1
  unfold frV at *
  have HT := hide hT
  have HK := hide hk
  have HB := hide hb
  have HK8 := hide hk8
  have HB8 := hide hb8
  have HKN := hide hkn
  have HBN := hide hbn
  have HON := hide (fun w => fonce_any s up w (by omega))
  rw [show (2 * s + (if up = true then 0 else 1)) = onceU s up from rfl] at HON
  have HOL := hide (onceU_lt s up (by omega))
  obtain ⟨O, hO⟩ : ∃ x, onceU s up = x := ⟨_, rfl⟩
  rw [hO] at HON HOL
  have HOE := hide hO
  obtain ⟨HD, hHD⟩ : ∃ x, headL c s k = x := ⟨_, rfl⟩
  have HDL : Hid (HD.length = 24) := hide (by rw [← hHD, headL_len])
  have HD8 : Hid (U8 HD) := hide (hHD ▸ headL_8 c s k)
  have HWE : Hid (wrapL key up c s k body = HD ++ sealL key O HD body) := hide (by rw [wrapL, hHD, hO])
  have HPE : Hid (putN [] (headN c s k) 3 = HD) := hide hHD
  have HF6 := hide f6
  have HF4 := hide f4
  have HF2 := hide f2
  have HF8 := hide f8
  clear b1 hR hk hb hk8 hb8 hkn hbn hO hHD hE hT f1 f2 f3 f4 f5 f6 f7 f8
  go_enter Tryd.func15, Tryd.ntmps15
  go_wp2_with fail
  generalize w.alloc (.cells #[.int .i64 c, .int .i64 (s : Int), .int .i64 k, .slice ba bn bc] 24) = w1 at *
  refine Calls.mono (unhide HF) ?_
  rintro e w2 ⟨rfl, b2⟩
  have R2 := (unhide HR).below b2 (unhide HR).lt
  have c0 : w2.cell? ⟨w.heap.size, 0, none⟩ = some (.int .i64 c) := R2.cell 0
  have c1 : w2.cell? ⟨w.heap.size, 1, none⟩ = some (.int .i64 (s : Int)) := R2.cell 1
  have c2 : w2.cell? ⟨w.heap.size, 2, none⟩ = some (.int .i64 k) := R2.cell 2
  have HR2 := hide R2
  have HB2 := hide ((unhide HB1).trans (b2.mono (unhide HB1).size))
  clear b2 R2 HF HB1 HR
  go_wp2_with fail
  have b3 : Below w2.heap.size w2 (w2.alloc (.cells #[.int .i64 c, .int .i64 (s : Int), .int .i64 k] 3)) := (Below.refl _ _).alloc (Nat.le_refl _) _
  have R3 := RowAt.new w2 3 [.int .i64 c, .int .i64 (s : Int), .int .i64 k]
  have hpt := putm_any (.slice none 0 0) [] (some ⟨w2.heap.size, 0, none⟩) 3 3 (headN c s k) (w2.alloc (.cells #[.int .i64 c, .int .i64 (s : Int), .int .i64 k] 3)) (.inl ⟨rfl, rfl⟩) (by simp) (by omega)
    (.inr ⟨w2.heap.size, 0, rfl, by rw [csize_alloc]; omega, fun i hi => by
      rw [Nat.zero_add]
      match i, hi with
      | 0, _ => exact R3.cell 0
      | 1, _ => exact R3.cell 1
      | 2, _ => exact R3.cell 2⟩)
    (fun i hi => by
      match i, hi with
      | 0, _ => have := unhide HF2; show c ≤ 9223372036854775807; omega
      | 1, _ => have := unhide HF4; show (s : Int) ≤ 9223372036854775807; omega
      | 2, _ => have := unhide HF6; show k ≤ 9223372036854775807; omega)
  rw [unhide HPE, unhide HDL] at hpt
  have HPT := hide hpt
  have HR3 := hide ((unhide HR2).below b3 (unhide HR2).lt)
  have HB3 := hide ((unhide HB2).trans (b3.mono (unhide HB2).size))
  clear b3 R3 hpt c0 c1 c2 HR2 HB2 HPE
  generalize w2.alloc (.cells #[.int .i64 c, .int .i64 (s : Int), .int .i64 k] 3) = w3 at *
  refine Calls.mono (unhide HPT) ?_
  rintro e w4 ⟨v4, rfl, o4, b4⟩
  have Y4 := Byt.of_own (own_cast o4 (unhide HDL).symm rfl)
  obtain ⟨da, dc, hde⟩ := byt_shape Y4
  rw [unhide HDL] at hde
  subst hde
  have R4 := (unhide HR3).below b4 (unhide HR3).lt
  have c1 : w4.cell? ⟨w.heap.size, 1, none⟩ = some (.int .i64 (s : Int)) := R4.cell 1
  have c3 : w4.cell? ⟨w.heap.size, 3, none⟩ = some (.slice ba bn bc) := R4.cell 3
  have B4 := (unhide HB3).trans (b4.mono (unhide HB3).size)
  have HO4 := hide (own_call (own_base o4 (unhide HB3).size) ((Below.refl w4.heap.size w4).drew))
  have HY4 := hide (Y4.call ((Below.refl w4.heap.size w4).drew))
  have HB4 := hide B4.drew
  clear o4 b4 Y4 R4 B4 HPT HR3 HB3
  by_cases hk64 : kn = 64
  · subst hk64
    have HSA := hide (seal_any (.slice ka 64 kc) (.slice da 24 dc) (.slice ba bn bc) key HD body O w4.drew ((unhide HT).below (unhide HB4)) ((unhide HK).call (unhide HB4)) (unhide HY4) ((unhide HB).call (unhide HB4)) (unhide HK8) (unhide HD8) (unhide HB8) (unhide HKN) (by rw [unhide HDL]; omega) (by rw [unhide HBN]; have := unhide HF8; omega) (unhide HOL))
    rw [unhide HBN] at HSA
    go_wp2_with fail
    go_region_held (fun w' => w'.cell? ⟨w.heap.size, 1, none⟩ = some (.int .i64 (s : Int)) ∧ w'.cell? ⟨w.heap.size, 3, none⟩ = some (.slice ba bn bc))
      (first | exact ⟨c1, c3⟩ | exact ⟨k1, k3⟩)
      (first
        | (go_at_call 45; refine Calls.mono (unhide HON _) ?_; rintro e wx ⟨rfl, rfl⟩)
        | (go_at_call 44; refine Calls.mono (unhide HSA) ?_; rintro e w5 ⟨v5, rfl, o5, b5⟩; have k1 := cell_keep b5 (lt_of_cell c1) c1; have k3 := cell_keep b5 (lt_of_cell c3) c3))
    clear k1 k3
    have B5 := (unhide HB4).trans (b5.mono (unhide HB4).size)
    have Y5 : Byt w5 v5 (sealL key O HD body) := Byt.of_own (own_cast o5 (by rw [sealL_len, unhide HBN]) rfl)
    have hl5 : (sealL key O HD body).length = bn + 16 := by rw [sealL_len, unhide HBN]
    obtain ⟨ga, gc, hge⟩ := byt_shape Y5
    rw [hl5] at hge
    subst hge
    have O5 := own_call (unhide HO4) b5
    have S5 := byt_src Y5 hl5
    have L5 : (bv (sealL key O HD body)).length = (bn + 16) * 1 := by rw [bv_len, hl5]; omega
    have s5 := B5.size
    have HB5 := hide B5
    have HO5 := hide O5
    clear o5 b5 B5 Y5 hl5 HSA HO4 HY4 HB4 c1 c3
    go_wp2_with (at_builtin; refine wpList_append_src _ rfl _ _ 22 rfl w.heap.size 5 i0 (.int .u8 0) 1 1 Tryd.underlying22 hi hz0 hz1 hz2 rfl (by decide) _ _ _ rfl O5 ga (bn + 16) gc (bv (sealL key O HD body)) rfl L5 S5.1 S5.2 (bv_one _) ?c3 ?c4 s5 ?_)
    case c3 => have := unhide HF8; unfold maxLen; omega
    case c4 => have := unhide HF8; omega
    intro a7 c7 w7 O7 g7
    have HFF : Hid (w7.ownsRow w.heap.size 5 1 (.slice a7 (24 + (bn + 16)) c7) (wrapL key up c s k body).length (bv (wrapL key up c s k body)) ∧ Below w.heap.size w w7) := hide ⟨own_cast O7 (by rw [wrapL_len, unhide HBN]; omega) (by rw [unhide HWE, bv_append]), (unhide HB5).grown g7 s5 (fun k hk => ((unhide HO5).lt k hk).1)⟩
    clear O7 g7 O5 HO5 HB5 S5 L5 s5
    go_wp2_with fail
    go_ret2
    exact ⟨(unhide HFF).2, fun _ => ⟨_, rfl, (unhide HFF).1⟩, fun h => absurd rfl h⟩
  · have HSN := hide (fun (w : World) => seal_not ka kn kc (.slice da 24 dc) (.slice ba bn bc) O w hk64)
    have HNK := hide hk64
    clear hk64
    go_wp2_with fail
    go_region_held (fun w' => w'.cell? ⟨w.heap.size, 1, none⟩ = some (.int .i64 (s : Int)) ∧ w'.cell? ⟨w.heap.size, 3, none⟩ = some (.slice ba bn bc))
      (exact ⟨c1, c3⟩)
      (first
        | (go_at_call 45; refine Calls.mono (unhide HON _) ?_; rintro e wx ⟨rfl, rfl⟩)
        | (go_at_call 44; refine Calls.mono (unhide HSN _) ?_; rintro e wx ⟨rfl, rfl⟩))
    go_wp2_with fail
    go_ret2
    exact ⟨unhide HB4, fun h => absurd h (unhide HNK), fun _ => rfl⟩
end Go.Proofs.YtonkgiiacholeaaDoor
