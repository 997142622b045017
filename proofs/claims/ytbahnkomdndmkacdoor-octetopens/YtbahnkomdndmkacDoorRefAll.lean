/- The document's own All. -/
import Derived.Test.YtbahnkomdndmkacDoorRefOpen3
namespace Go.Proofs.YtbahnkomdndmkacDoor
set_option linter.unusedVariables false
set_option linter.unusedSimpArgs false
open Go.ChangeShapes Go.WideShapes Go.ChangeAt Go.RowKit

theorem low_drop {b off n cap k c g : Nat} (h : Low (.slice (some ⟨b, off, none⟩) n cap) g) (hn : 0 < n) : Low (.slice (some ⟨b, off + k, none⟩) (n - k) c) g := by
  intro a' n' cap' e hpos
  injection e with e1 _ _
  injection e1 with e1
  subst e1
  exact h ⟨b, off, none⟩ n cap rfl hn

set_option maxRecDepth 100000 in
set_option maxHeartbeats 4000000 in
theorem refall_any (a : Option Addr) (n cap : Nat) (l : List Nat) (w : World) (hv : Byt w (.slice a n cap) l) (hg : Low (.slice a n cap) w.heap.size) (hl : n ≤ 1000000000) (h256 : ∀ y ∈ l, y < 256) :
    Calls Tryd.prog 36 #[.slice a n cap] w fun e w' => ∃ v' ds j, e = .returned (.tuple #[v', .int .i64 ((j : Nat) : Int)]) ∧ Lists w' w.heap.size v' ds ∧ From l 0 ds j ∧ j ≤ n ∧ ds.length ≤ n ∧ Below w.heap.size w w' := by
  have hln := byt_len hv
  have HV := hide hv
  have HG := hide hg
  have HLN := hide hln
  have H256 := hide h256
  clear h256 hv hg hln
  obtain ⟨i0, hi, hz0, hz1, hz2⟩ := info_parts info22
  go_enter Tryd.func36, Tryd.ntmps36
  go_wp2_with fail
  go_loopw [4, 5, 11] (fun v p i wr => ∃ (k j : Nat) (ds : List (List Nat)), j ≤ n ∧ k ≤ n ∧ 12 * j ≤ k ∧ ds.length = j ∧ i = .int .i64 (j : Int) ∧ p = .int .i64 (k : Int) ∧ Lists wr w.heap.size v ds ∧ Below w.heap.size w wr ∧ ∀ ds2 j', From l k ds2 j' → From l 0 (ds ++ ds2) j') (fun _ _ i _ => n - (intOf i).toNat)
  case atStart => exact ⟨0, 0, [], by omega, by omega, by omega, rfl, rfl, rfl, Lists.nil _ _, Below.refl _ _, fun ds2 j h => h⟩
  case round =>
    obtain ⟨k, j, ds, hj, hk, hjk, hds, rfl, rfl, hrow, hbel, hfrom⟩ := hrel
    have HROW := hide hrow
    have HBEL := hide hbel
    have HFR := hide hfrom
    have HDS := hide hds
    have hsz := hbel.size
    clear hrow hbel hfrom
    by_cases hlt : j < n
    · have i1 : (j : Int) < (n : Int) := by omega
      have i2 : (0 : Int) ≤ (k : Int) := by omega
      have i3 : (k : Int) ≤ (n : Int) := by omega
      have hvr := (unhide HV).call (unhide HBEL)
      have hgr := (unhide HG).mono hsz
      have HD256 := hide (p := ∀ y ∈ l.drop k, y < 256) (fun y hy => unhide H256 y (List.mem_of_mem_drop hy))
      have hcn := byt_cap hvr
      rcases hvr with ⟨h0, _⟩ | ⟨a0, cap0, h0, c1, c2, c3⟩
      · injection h0 with _ e2 _; omega
      injection h0 with e1 e2 e3
      subst e1 e3
      obtain ⟨b, off, rfl⟩ := plain_of c3 (by rw [unhide HLN]; omega)
      have hbyt : Byt wr (.slice (some ⟨b, off + k, none⟩) (n - k) (cap - k)) (l.drop k) := by
        have q := slice_byt (k := k) (m := n - k) c3 (unhide HLN) (by omega) (by omega) c2
        rw [add_plain, List.take_of_length_le (by rw [List.length_drop, unhide HLN]; omega)] at q
        exact q
      have HBY := hide hbyt
      have HLO := hide (low_drop (k := k) (c := cap - k) hgr (by omega))
      clear hbyt c3 e2
      by_cases hcap : cap = k
      · subst hcap
        obtain rfl : n = cap := by omega
        rcases cases_at l n with ⟨m, hgood⟩ | ⟨e0, hbad⟩
        · obtain ⟨_, q2, _⟩ := hgood
          rw [unhide HLN] at q2
          omega
        have hd0 : l.drop n = [] := List.drop_of_length_le (by rw [unhide HLN]; omega)
        have HB0 : Hid (Byt wr (.slice (some ⟨b, off, none⟩) 0 0) (l.drop n)) := hide (by rw [hd0]; exact .inr ⟨_, 0, rfl, Nat.le_refl _, Nat.zero_le _, fun i y hy => by cases hy⟩)
        have HL0 : Hid (Low (.slice (some ⟨b, off, none⟩) 0 0) wr.heap.size) := hide (fun _ _ _ e hp => by injection e with _ e2 _; omega)
        clear hd0
        have hpos := badBlock_pos hbad
        have HBD := hide hbad
        have hnb : (e0 != 0) = true := by simpa using hpos
        have hblk := hide (refopen_bad _ _ _ (l.drop n) e0 wr (unhide HB0) (unhide HL0) (by omega) (unhide HD256) (bad_drop (by rw [unhide HLN]; exact hk) hbad))
        clear hbad
        go_wp2_with fail
        refine (unhide hblk).mono ?_
        rintro e w1 ⟨rfl, hb1⟩
        have HR1 := hide ((unhide HROW).below hb1)
        have HB1 := hide ((unhide HBEL).trans (hb1.mono hsz))
        clear hb1
        go_wp2_with fail
        go_ret2
        exact ⟨_, ds, n, rfl, unhide HR1, by simpa using unhide HFR [] n (.stop (unhide HBD)), hk, by omega, unhide HB1⟩
      rcases cases_at l k with ⟨m, hgood⟩ | ⟨e0, hbad⟩
      · have HGD := hide hgood
        have q2 := hgood.2.1
        rw [unhide HLN] at q2
        have hblk := hide (refopen_good _ _ _ (l.drop k) wr (unhide HBY) (unhide HLO) (by omega) (unhide HD256) m (good_drop hgood))
        clear hgood
        go_wp2_with fail
        refine (unhide hblk).mono ?_
        rintro e w2 ⟨v2, rfl, ho2, hb2⟩
        rw [List.drop_drop] at ho2
        have hdl : ((l.drop (k + 8)).take m).length = m := by rw [List.length_take, List.length_drop, unhide HLN]; omega
        have HDL := hide hdl
        clear hdl
        generalize hd : (l.drop (k + 8)).take m = d at ho2 HDL
        have HD := hide hd
        clear hd
        obtain ⟨a2, c2, rfl⟩ : ∃ a2 c2, v2 = .slice a2 m c2 := by
          obtain ⟨_, ⟨rfl, rfl⟩ | ⟨g2, c2, _, rfl, _⟩⟩ := ho2
          · exact ⟨_, _, rfl⟩
          · exact ⟨_, _, rfl⟩
        obtain ⟨vs, hr1, hr2⟩ := (unhide HROW).below (hb2.alloc hb2.size (.cells #[.slice a2 m c2] 22))
        have ho3 : Hid ((w2.alloc (.cells #[.slice a2 m c2] 22)).ownsRow w.heap.size 5 1 (.slice a2 m c2) d.length (bv d)) := by
          have q := own_mono (ho2.alloc (.cells #[.slice a2 m c2] 22)) hsz
          exact hide (own_cast q (unhide HDL).symm rfl)
        have HB2 := hide ((unhide HBEL).trans (((hb2.alloc hb2.size (.cells #[.slice a2 m c2] 22))).mono hsz))
        have hsz2 := hb2.size
        have HR2 := hide hr2
        have hdl : ds.length ≤ 1000000000 := by omega
        have g8 : (8 + (m : Int) + 4) = 8 + (m : Int) + 4 := rfl
        clear ho2 hb2 hr2
        go_wp2_with (at_builtin; refine wpList_append_own _ rfl _ _ 49 rfl w.heap.size 22 i0 (.slice none 0 0) 1 24 Tryd.underlying49 hi hz0 hz1 hz2 rfl (by decide) _ _ _ rfl hr1 ⟨w2.heap.size, 0, none⟩ 1 1 [.slice a2 m c2] rfl ?c0 ?c1 ?c2 ?c3 ?c4 ?c5 ?_)
        case c0 => rfl
        case c1 =>
          intro j u hj
          cases j with
          | zero => simp at hj; subst hj; simp [Addr.add]
          | succ j => simp at hj
        case c2 => intro u hu; simp at hu; subst hu; rfl
        case c3 => unfold maxLen; omega
        case c4 => omega
        case c5 => simp; omega
        intro v' w3 hown' hgrow' _
        have hL := hide (Lists.push hr1 (unhide HR2) (unhide ho3) hgrow' (show w3.ownsRow w.heap.size 22 1 v' (ds.length + 1) _ by rw [unhide HDS]; exact hown'))
        have hb3 : Below w.heap.size (w2.alloc (.cells #[.slice a2 m c2] 22)) w3 := (Below.refl _ _).grown hgrow' (by simp; omega) (fun k hk => (hr1.lt k hk).1)
        have HB3 := hide ((unhide HB2).trans hb3)
        clear hb3 hgrow' hown' hr1
        go_wp2_with fail
        go_roundw
        case rel =>
          refine ⟨k + 8 + m + 4, j + 1, _, by omega, by omega, by omega, ?_, by go_num, by go_num, unhide hL, unhide HB3, fun ds2 j h => ?_⟩
          · simp; exact unhide HDS
          · rw [List.append_assoc, ← unhide HD]; exact unhide HFR _ _ (.more (unhide HGD) h)
        case measure => simp [intOf]; omega
      · have hpos := badBlock_pos hbad
        have HBD := hide hbad
        have hnb : (e0 != 0) = true := by simpa using hpos
        have hblk := hide (refopen_bad _ _ _ (l.drop k) e0 wr (unhide HBY) (unhide HLO) (by omega) (unhide HD256) (bad_drop (by rw [unhide HLN]; exact hk) hbad))
        clear hbad
        go_wp2_with fail
        refine (unhide hblk).mono ?_
        rintro e w1 ⟨rfl, hb1⟩
        have HR1 := hide ((unhide HROW).below hb1)
        have HB1 := hide ((unhide HBEL).trans (hb1.mono hsz))
        clear hb1
        go_wp2_with fail
        go_ret2
        exact ⟨_, ds, k, rfl, unhide HR1, by simpa using unhide HFR [] k (.stop (unhide HBD)), hk, by omega, unhide HB1⟩
    · obtain rfl : j = n := by omega
      have hn0 : j = 0 := by omega
      have hk0 : k = 0 := by omega
      subst hk0
      have i1 : ¬ (j : Int) < (j : Int) := by omega
      go_wp2_with fail
      go_ret2
      refine ⟨_, ds, 0, rfl, unhide HROW, ?_, by first | rfl | omega, by first | exact List.eq_nil_of_length_eq_zero (by have := unhide HDS; omega) | (have := unhide HDS; omega), unhide HBEL⟩
      have q := unhide HFR [] 0 (.stop (e := 2) (.inl ⟨.inl ⟨by rw [unhide HLN]; omega, rfl⟩, by decide⟩))
      simpa using q
end Go.Proofs.YtbahnkomdndmkacDoor
