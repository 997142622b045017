/- The reference's Turn. -/
import Derived.Test.YthhpnakgiammiaaDoorCRefB
import Derived.Test.YthhpnakgiammiaaDoorCSeal
import Derived.Deep.AppendLies
namespace Go.Proofs.YthhpnakgiammiaaDoor
set_option linter.unusedVariables false
set_option linter.unusedSimpArgs false
open Go.ChangeShapes Go.WideShapes Go.ChangeAt Go.RowKit Go.Joins

/-- s is a slice of a block's bytes, and lies elsewhere than v -/
def SB (w : World) (s v : Value) (B : List Nat) : Prop := ∃ gs cs, s = .slice (some ⟨gs, 0, none⟩) 64 cs ∧ gs < w.heap.size ∧ (∀ j, j < 64 → w.cell? ⟨gs, j, none⟩ = some (.int .u8 ((B.getD j 0 : Nat) : Int))) ∧ some gs ≠ v.ownBlock
theorem own_call {w w' : World} {b n : Nat} {v : Value} {xs : List Value} (h : w.ownsRow b 5 1 v n xs) (hb : Below w.heap.size w w') : w'.ownsRow b 5 1 v n xs := by
  obtain ⟨h1, h2⟩ := h
  refine ⟨h1, ?_⟩
  rcases h2 with h2 | ⟨g, cap, cur, e1, e2, e3, e4⟩
  · exact .inl h2
  · have hlt : g < w.heap.size := by
      rcases Nat.lt_or_ge g w.heap.size with hlt | hge
      · exact hlt
      · rw [Array.getElem?_eq_none hge] at e3; cases e3
    obtain ⟨_, _, _, _, hh⟩ := hb
    exact .inr ⟨g, cap, cur, e1, e2, (hh g hlt).trans e3, e4⟩
theorem turnL_take (W b : List Nat) (k : Nat) (hk : k < b.length) : (turnL W b).take (k + 1) = (turnL W b).take k ++ [turnW W b k] := by
  rw [List.take_succ_eq_append_getElem (by rw [turnL_len]; exact hk), ← turnL_getD W b k hk, List.getD_eq_getElem?_getD, List.getElem?_eq_getElem (by rw [turnL_len]; exact hk)]
  rfl
theorem rturn_short (ka : Option Addr) (kn kc : Nat) (uv : Value) (once : Nat) (w : World) (h : kn < 32) :
    Calls Tryd.prog 13 #[.slice ka kn kc, .int .u64 (once : Int), uv] w fun e w' => e = .returned (.tuple #[.slice none 0 0, .int .i64 1]) ∧ w = w' := by
  have h1 : (kn : Int) < 32 := by omega
  go_enter Tryd.func13, Tryd.ntmps13
  go_wp2_with fail
  go_ret2
  exact ⟨rfl, rfl⟩

set_option maxRecDepth 100000 in
set_option maxHeartbeats 4000000 in
theorem rturn_any (kv uv : Value) (key b : List Nat) (once : Nat) (w : World) (hk : Byt w kv key) (hb : Byt w uv b) (hk8 : U8 key) (hb8 : U8 b) (hkl : 32 ≤ key.length) (hbl : b.length ≤ 1000000) (ho : once < 18446744073709551616) :
    Calls Tryd.prog 13 #[kv, .int .u64 (once : Int), uv] w
      fun e w' => ∃ v', e = .returned (.tuple #[v', .int .i64 0]) ∧ w'.ownsRow w.heap.size 5 1 v' b.length (bv (tkL key once b)) ∧ Below w.heap.size w w' := by
  obtain ⟨i0, hi, hz0, hz1, hz2⟩ := info_parts info5
  obtain ⟨ka, kc, hke⟩ := byt_shape hk
  obtain ⟨ba, bc, hbe⟩ := byt_shape hb
  obtain ⟨kn, hkn⟩ : ∃ x, key.length = x := ⟨_, rfl⟩
  obtain ⟨bn, hbn⟩ : ∃ x, b.length = x := ⟨_, rfl⟩
  rw [hkn] at hke hkl
  rw [hbn] at hbe hbl
  rw [hbn]
  subst hke hbe
  have HK := hide hk
  have HB := hide hb
  have HK8 := hide hk8
  have HB8 := hide hb8
  have HBN := hide hbn
  have HKN := hide hkn
  have HO := hide ho
  have h32 : ¬ (kn : Int) < 32 := by omega
  have HKL := hide hkl
  have HBL := hide hbl
  have HSR : Hid (∀ k, k < bn → ∃ a, ba = some a ∧ w.cell? (a.add k) = some (.int .u8 ((b.getD k 0 : Nat) : Int))) := hide (fun k hk' => by
    rcases hb with ⟨_, hnil⟩ | ⟨a, c, he, h1, h2, h3⟩
    · rw [hnil] at hbn; simp at hbn; omega
    · injection he with e1 e2 e3
      exact ⟨a, e1, h3 k _ (by rw [List.getD_eq_getElem?_getD, List.getElem?_eq_getElem (by omega)]; rfl)⟩)
  clear hk hb hk8 hb8 hbn hkn ho hkl hbl
  obtain ⟨T, hT⟩ : ∃ T, tkL key once b = T := ⟨_, rfl⟩
  rw [hT]
  have HTL : Hid (T.length = bn) := hide (by rw [← hT, tkL_len, unhide HBN])
  have HTS : Hid (∀ k, k < bn → T.take (k + 1) = T.take k ++ [turnW (startL (key.take 32) once) b k]) := hide (fun k hk' => hT ▸ turnL_take _ b k (by rw [unhide HBN]; exact hk'))
  clear hT
  go_enter Tryd.func13, Tryd.ntmps13
  go_wp2_with fail
  go_loopw [8, 9, 17] (fun s v i wr => ∃ k : Nat, k ≤ bn ∧ i = .int .i64 (k : Int) ∧ Hid (wr.ownsRow w.heap.size 5 1 v k (bv (T.take k)) ∧ Below w.heap.size w wr ∧ (¬ k % 64 = 0 → SB wr s v (blockL (startL (key.take 32) once) (k / 64))))) (fun _ _ i _ => (bn - intOf i).toNat)
  case atStart => exact ⟨0, by omega, rfl, World.ownsRow_nil _ _ _ _, Below.refl _ _, fun h => absurd rfl h⟩
  case round =>
    obtain ⟨k, hk, rfl, HC⟩ := hrel
    by_cases hlt : k < bn
    · have hkI : (k : Int) < (bn : Int) := by omega
      have HLT := hide hlt
      obtain ⟨ba', hba, hcell⟩ := unhide HSR k hlt
      subst hba
      have hcw := cell_keep (unhide HC).2.1 (lt_of_cell hcell) hcell
      obtain ⟨m, hm⟩ : ∃ m : Nat, k % 64 = m := ⟨_, rfl⟩
      obtain ⟨q, hq⟩ : ∃ q : Nat, k / 64 = q := ⟨_, rfl⟩
      have hmI : (k : Int) % 64 = (m : Int) := by omega
      have hmT : Int.tmod (k : Int) 64 = (m : Int) := by rw [Int.tmod_eq_emod_of_nonneg (by omega)]; exact hmI
      have hqI : (k : Int) / 64 = (q : Int) := by omega
      have hqT : Int.tdiv (k : Int) 64 = (q : Int) := by rw [Int.tdiv_eq_ediv_of_nonneg (by omega)]; exact hqI
      have hm64 : m < 64 := by omega
      have hqb : q ≤ 15625 := by have := unhide HBL; omega
      have hqbI : (q : Int) ≤ 15625 := by omega
      have HTK := hide (unhide HTS k hlt)
      have HTW : Hid (turnW (startL (key.take 32) once) b k = b.getD k 0 ^^^ (blockL (startL (key.take 32) once) q).getD m 0) := hide (by rw [turnW, hm, hq])
      rw [hm, hq] at HC
      have HX8 : Hid (b.getD k 0 < 256) := hide ((unhide HB8).getD k)
      have HY8 : Hid ((blockL (startL (key.take 32) once) q).getD m 0 < 256) := hide ((blockL_8 _ q).getD m)
      have HRB := hide (fun wx (hbx : Below w.heap.size w wx) => rblock_any (.slice ka kn kc) key once q wx ((unhide HK).call hbx) (unhide HK8) (by rw [unhide HKN]; exact unhide HKL) (unhide HO) (by have := unhide HBL; omega))
      generalize b.getD k 0 = x at *
      generalize turnW (startL (key.take 32) once) b k = tw at *
      obtain ⟨Bq, hBq⟩ : ∃ x, blockL (startL (key.take 32) once) q = x := ⟨_, rfl⟩
      rw [hBq] at HTW HY8 HRB HC
      have HBQ := hide hBq
      clear hBq
      have HM := hide hm
      have HQ := hide hq
      clear hm hq hcell
      go_upto_if 24 with fail
      go_cut [8] (fun s wx => Hid (SB wx s u9 Bq ∧ wx.ownsRow w.heap.size 5 1 u9 k (bv (T.take k)) ∧ Below w.heap.size w wx))
      case first =>
        by_cases hm0 : m = 0
        · have hm0I : (m : Int) = 0 := by omega
          go_wp2_with fail
          refine Calls.mono (unhide HRB _ (unhide HC).2.1) ?_
          rintro e w2 ⟨v2, rfl, o2, b2⟩
          obtain ⟨gs, cs, hv2, hgs, hlt2⟩ := o2.form (by omega)
          have HF : Hid (SB w2 v2 u9 Bq ∧ w2.ownsRow w.heap.size 5 1 u9 k (bv (T.take k)) ∧ Below w.heap.size w w2) := hide (by
            obtain ⟨c1, c2, _⟩ := unhide HC
            refine ⟨⟨gs, cs, hv2, hlt2, fun j hj => ?_, fun e => ?_⟩, own_call c1 b2, c2.trans (b2.mono c2.size)⟩
            · have h1 := o2.cells (g := gs) (by rw [hv2]; rfl) j (.int .u8 ((Bq.getD j 0 : Nat) : Int)) (by
                rw [bv, List.getElem?_map, List.getD_eq_getElem?_getD]
                have hl : Bq.length = 64 := by have := o2.1; rw [bv_len] at this; omega
                rw [List.getElem?_eq_getElem (by omega)]; rfl)
              rw [add_plain, Nat.zero_add] at h1
              exact h1
            · have := (c1.lt gs e.symm).2
              omega)
          clear o2 b2 hv2 hgs hlt2
          go_wp2_with fail
          go_meet
          case rel => exact HF
        · have hm0I : ¬ (m : Int) = 0 := by omega
          have HF : Hid (SB wr u8 u9 Bq ∧ wr.ownsRow w.heap.size 5 1 u9 k (bv (T.take k)) ∧ Below w.heap.size w wr) := hide ⟨(unhide HC).2.2 hm0, (unhide HC).1, (unhide HC).2.1⟩
          go_wp2_with fail
          go_meet
          case rel => exact HF
      case rest =>
        obtain ⟨⟨gs, cs, rfl, hgl, hcl, hne⟩, o3, b3⟩ := unhide hcut
        have c1 := hcl m hm64
        have hmI64 : (m : Int) < 64 := by omega
        have q3 := u8_xor_nat x (Bq.getD m 0) (unhide HX8) (unhide HY8)
        have HTW2 := HTW
        generalize Bq.getD m 0 = y at *
        obtain ⟨z, hz⟩ : ∃ z, x ^^^ y = z := ⟨_, rfl⟩
        rw [hz] at q3 HTW2
        have hs3 : w.heap.size ≤ wc.heap.size := b3.size
        have HB3 := hide b3
        have HO3 := hide o3
        have HCL := hide hcl
        have HNE := hide hne
        have HGL := hide hgl
        clear hcut hcw b3 hcl hne hgl HTW
        clear hz
        go_wp2_with (at_builtin; refine wpList_append_lies _ rfl _ _ 22 rfl w.heap.size 5 i0 (.int .u8 0) 1 1 Tryd.underlying22 hi hz0 hz1 hz2 rfl (by decide) _ _ _ rfl (o3.alloc _) ⟨wc.heap.size, 0, none⟩ 1 1 [.int .u8 (z : Int)] rfl rfl ?c1 ?c2 (by decide) ?c3 ?c4 ?c5 (wc.heap.size + 1) (by simp) ?_)
        case c1 =>
          intro j x hj
          match j, hj with
          | 0, hj => simp at hj; subst hj; simp [Addr.add]
        case c2 => intro x hx; simp at hx; subst hx; rfl
        case c3 => have := unhide HBL; unfold maxLen; omega
        case c4 => have := unhide HBL; omega
        case c5 => simp; omega
        intro gn cn w4 hown' hgrow hat hltn
        have hb4 : Below w.heap.size w w4 := ((unhide HB3).alloc hs3 _).grown hgrow (by simp; omega) (fun g hg => ((unhide HO3).lt g hg).1)
        have hgn : gs ≠ gn := by
          rcases hat with hat | hat
          · intro e; subst e; exact unhide HNE hat.symm
          · have := unhide HGL; omega
        have HF : Hid (w4.ownsRow w.heap.size 5 1 (.slice (some ⟨gn, 0, none⟩) (k + 1) cn) (k + 1) (bv (T.take (k + 1))) ∧ Below w.heap.size w w4 ∧ (¬ (k + 1) % 64 = 0 → SB w4 (.slice (some ⟨gs, 0, none⟩) 64 cs) (.slice (some ⟨gn, 0, none⟩) (k + 1) cn) (blockL (startL (key.take 32) once) ((k + 1) / 64)))) := hide (by
          refine ⟨own_cast hown' rfl (by rw [unhide HTK, bv_append, unhide HTW2]; rfl), hb4, fun hk1 => ⟨gs, cs, rfl, ?_, fun j hj => ?_, ?_⟩⟩
          · have h1 := hgrow.size
            rw [csize_alloc] at h1
            have := unhide HGL
            omega
          · rw [show (k + 1) / 64 = q by have := unhide HM; have := unhide HQ; omega, unhide HBQ]
            have h1 := unhide HCL j hj
            rw [hgrow.cell_far ⟨gs, j, none⟩ (by rw [csize_alloc]; exact Nat.lt_succ_of_lt (unhide HGL)) (unhide HNE)]
            exact cell_keep ((Below.refl wc.heap.size wc).alloc (Nat.le_refl _) _) (unhide HGL) h1
          · intro e
            simp [Value.ownBlock] at e
            exact hgn e)
        clear hown' hgrow hat hltn hb4 hgn o3
        go_wp2_with fail
        go_roundw
        case rel => exact ⟨k + 1, by have := unhide HLT; omega, by go_num, HF⟩
        case measure => have := unhide HLT; simp [intOf]; omega
    · have hkI : ¬ (k : Int) < (bn : Int) := by omega
      obtain rfl : k = bn := by omega
      have HF : Hid (wr.ownsRow w.heap.size 5 1 u9 k (bv T) ∧ Below w.heap.size w wr) := hide (by
        obtain ⟨c1, c2, _⟩ := unhide HC
        rw [List.take_of_length_le (by rw [unhide HTL]; omega)] at c1
        exact ⟨c1, c2⟩)
      go_wp2_with fail
      go_ret2
      exact ⟨_, rfl, unhide HF⟩
end Go.Proofs.YthhpnakgiammiaaDoor
