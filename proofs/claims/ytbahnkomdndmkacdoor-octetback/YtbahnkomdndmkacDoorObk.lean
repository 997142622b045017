/- What is put is read as it was: the walk. -/
import Derived.Test.YtbahnkomdndmkacDoorOtx
import Derived.Test.YtbahnkomdndmkacDoorForm0
import Derived.Shelf.Unicode.ValidAny
namespace Go.Proofs.YtbahnkomdndmkacDoor
set_option linter.unusedVariables false
set_option linter.unusedSimpArgs false
open Go.ChangeShapes Go.WideShapes Go.ChangeAt Go.RowKit Go.Joins Go.Shelf

shelf_lay Lays.n196 Nm 196 at Tryd as Tryd.lays196
theorem fValS : Tryd.lays196_ren.f 196 = 38 := by kernel_rfl
theorem gValS : Tryd.lays196_ren.g 3 = 0 ∧ Tryd.lays196_ren.g 4 = 1 := ⟨by kernel_rfl, by kernel_rfl⟩
theorem vstr_any (s : ByteArray) (w : World) (hT : Lib.Utf8Tabs 0 1 w) (hs : s.size ≤ 9223372036854775807) : Calls Tryd.prog 38 #[.string s] w fun e w' => e = .returned (.bool (Lib.validD s.data.toList)) ∧ Below w.heap.size w w' := by
  have h := Any.utf8_ValidString Tryd.lays196 s w hs (by rw [gValS.1, gValS.2]; exact hT)
  rw [fValS] at h
  exact h
theorem tabs_low {w w' : World} (h : Lib.Utf8Tabs 0 1 w) (hb : Below w.heap.size w w') : Lib.Utf8Tabs 0 1 w' := Utf8Tabs_below h hb

theorem txt_nats (s : ByteArray) : txt s = nats s := rfl
theorem five (A B D C T Z : List Nat) (hA : A.length = 8) (hB : B.length = 8) (hC : C.length = 8) (L : List Nat) (hL : L = A ++ (B ++ (D ++ (C ++ (T ++ Z))))) :
    (L.drop 0).take 8 = A ∧ (L.drop 8).take 8 = B ∧ (L.drop 16).take D.length = D ∧ (L.drop (16 + D.length)).take 8 = C ∧ (L.drop (16 + D.length + 8)).take T.length = T := by
  subst hL
  have d8 : (A ++ (B ++ (D ++ (C ++ (T ++ Z))))).drop 8 = B ++ (D ++ (C ++ (T ++ Z))) := List.drop_left' hA
  have d16 : (A ++ (B ++ (D ++ (C ++ (T ++ Z))))).drop 16 = D ++ (C ++ (T ++ Z)) := by
    rw [show (16 : Nat) = 8 + 8 from rfl, ← List.drop_drop, d8]; exact List.drop_left' hB
  have dD : (A ++ (B ++ (D ++ (C ++ (T ++ Z))))).drop (16 + D.length) = C ++ (T ++ Z) := by
    rw [← List.drop_drop, d16]; exact List.drop_left' rfl
  have dC : (A ++ (B ++ (D ++ (C ++ (T ++ Z))))).drop (16 + D.length + 8) = T ++ Z := by
    rw [← List.drop_drop, dD]; exact List.drop_left' hC
  refine ⟨?_, ?_, ?_, ?_, ?_⟩
  · rw [List.drop_zero]; exact List.take_left' hA
  · rw [d8]; exact List.take_left' hB
  · rw [d16]; exact List.take_left' rfl
  · rw [dD]; exact List.take_left' hC
  · rw [dC]; exact List.take_left' rfl
theorem put1 (k : Int) (w : World) (hk : k ≤ 9223372036854775807) : Calls Tryd.prog 39 #[.slice none 0 0, .slice (some ⟨w.heap.size, 0, none⟩) 1 1] (w.alloc (.cells #[.int .i64 k] 3)) fun e w' => ∃ v', e = .returned v' ∧ Byt w' v' (num8 k.toNat) ∧ Below w.heap.size w w' := by
  have hB : Below w.heap.size w (w.alloc (.cells #[.int .i64 k] 3)) := (Below.refl _ _).alloc (Nat.le_refl _) _
  refine (putm_any (.slice none 0 0) [] (some ⟨w.heap.size, 0, none⟩) 1 1 (fun _ => k) _ (nil_byt _) (by decide) (by decide) (.inr ⟨w.heap.size, 0, rfl, by simp, fun i hi => ?_⟩) (fun i _ => hk)).mono ?_
  · obtain rfl : i = 0 := by omega
    simp [go_sem]
  · rintro e w' ⟨v', rfl, ho, hb⟩
    exact ⟨v', rfl, Byt.of_own ho, hB.trans (hb.mono hB.size)⟩
theorem num8_num (u : Nat) (h : u < 18446744073709551616) : numOf (num8 u) = u := numOf_num8 u h

set_option maxRecDepth 100000 in
set_option maxHeartbeats 8000000 in
theorem back_law (k : Int) (vd vb : Value) (d bh : List Nat) (s : ByteArray) (w : World) (hT : Tabs w) (hU : Lib.Utf8Tabs 0 1 w) (hd : Byt w vd d) (hd8 : ∀ y ∈ d, y < 256) (hb : Byt w vb bh) (hb8 : ∀ y ∈ bh, y < 256) (hk1 : -9223372036854775808 ≤ k) (hk2 : k ≤ 9223372036854775807) :
    Calls Tryd.prog 6 #[.int .i64 k, vd, .string s, vb] w fun e w' => e = .returned (.bool true) ∧ Below w.heap.size w w' := by
  obtain ⟨ad, cd, rfl⟩ := byt_shape hd
  obtain ⟨ab, cb, rfl⟩ := byt_shape hb
  have HD := hide hd
  have HB := hide hb
  have HD8 := hide hd8
  have HB8 := hide hb8
  have HT := hide hT
  have HU := hide hU
  clear hd hb hd8 hb8 hT hU
  obtain ⟨nd, hnd⟩ : ∃ nd, d.length = nd := ⟨_, rfl⟩
  obtain ⟨nb, hnb⟩ : ∃ nb, bh.length = nb := ⟨_, rfl⟩
  obtain ⟨ns, hns⟩ : ∃ ns, s.size = ns := ⟨_, rfl⟩
  rw [hnd] at HD ⊢
  rw [hnb] at HB ⊢
  have HND := hide hnd
  have HNB := hide hnb
  clear hnd hnb
  by_cases h1 : 32768 < nd
  · have h1z : (32768 : Int) < (nd : Int) := by omega
    go_enter Tryd.func6, Tryd.ntmps6
    go_wp2_with (go_at_call 9; refine (awake_any _ (unhide HT)).mono ?_; rintro e w' ⟨rfl, b1⟩)
    go_ret
    exact ⟨rfl, b1⟩
  have h1z : ¬ (32768 : Int) < (nd : Int) := by omega
  have h1d : decide ((32768 : Int) < (nd : Int)) = false := by simpa using h1z
  by_cases h2 : 32768 < ns
  · have h2z : (32768 : Int) < (ns : Int) := by omega
    rw [← hns] at h2z
    clear hns
    go_enter Tryd.func6, Tryd.ntmps6
    go_wp2_with (go_at_call 9; refine (awake_any _ (unhide HT)).mono ?_; rintro e w' ⟨rfl, b1⟩)
    go_ret
    exact ⟨rfl, b1⟩
  have h2z : ¬ (32768 : Int) < (s.size : Int) := by omega
  have h2d : decide ((32768 : Int) < (s.size : Int)) = false := by simpa using h2z
  by_cases h3 : 32768 < nb
  · have h3z : (32768 : Int) < (nb : Int) := by omega
    clear hns
    go_enter Tryd.func6, Tryd.ntmps6
    go_wp2_with (go_at_call 9; refine (awake_any _ (unhide HT)).mono ?_; rintro e w' ⟨rfl, b1⟩)
    go_ret
    exact ⟨rfl, b1⟩
  have h3z : ¬ (32768 : Int) < (nb : Int) := by omega
  have h3d : decide ((32768 : Int) < (nb : Int)) = false := by simpa using h3z
  have HNS := hide hns
  clear hns
  go_enter Tryd.func6, Tryd.ntmps6
  go_wp2_with fail
  refine Calls.mono (vstr_any s w (unhide HU) (by have := unhide HNS; omega)) ?_
  rintro e w1 ⟨rfl, b1⟩
  obtain ⟨vb, hvb⟩ : ∃ vb, Lib.validD s.data.toList = vb := ⟨_, rfl⟩
  rw [hvb]
  have HV := hide hvb
  clear hvb
  have HB1 := hide b1
  clear b1
  cases vb with
  | false =>
    have HT1 := hide ((unhide HT).below (unhide HB1))
    go_wp2_with (go_at_call 9; refine (awake_any _ (unhide HT1)).mono ?_; rintro e w' ⟨rfl, b2⟩)
    go_ret
    exact ⟨rfl, (unhide HB1).trans (b2.mono (unhide HB1).size)⟩
  | true =>
    have HD1 := hide ((unhide HD).call (unhide HB1))
    have HE1 := hide ((unhide HB).call (unhide HB1))
    go_wp2_with fail
    refine Calls.mono (put1 k w1 hk2) ?_
    rintro e w2 ⟨v2, rfl, y2, b2⟩
    have HD2 := hide ((unhide HD1).call b2)
    have HE2 := hide ((unhide HE1).call b2)
    have HB2 := hide ((unhide HB1).trans (b2.mono (unhide HB1).size))
    have HY2 := hide y2
    obtain ⟨a2, c2, rfl⟩ := byt_shape y2
    clear b2 y2 HD1 HE1 HB1
    go_wp2_with fail
    refine Calls.mono (putbytes_any _ _ _ _ w2 (unhide HY2) (unhide HD2) (by rw [num8_len]; omega) (by have := unhide HND; omega)) ?_
    rintro e w3 ⟨v3, rfl, o3, b3⟩
    have HD3 := hide ((unhide HD2).call b3)
    have HE3 := hide ((unhide HE2).call b3)
    have HB3 := hide ((unhide HB2).trans (b3.mono (unhide HB2).size))
    have y3 := Byt.of_own o3
    have HY3 := hide y3
    have HL3 : Hid ((putB (num8 k.toNat) d).length = 16 + nd) := hide (by rw [putB_len, num8_len, unhide HND])
    obtain ⟨a3, c3, rfl⟩ := byt_shape y3
    clear b3 y3 o3 HD2 HE2 HB2 HY2
    go_wp2_with fail
    refine Calls.mono (puttext_any _ _ s w3 (unhide HY3) (by rw [unhide HL3]; omega) (by have := unhide HNS; omega)) ?_
    rintro e w4 ⟨v4, rfl, o4, b4⟩
    have HD4 := hide ((unhide HD3).call b4)
    have HE4 := hide ((unhide HE3).call b4)
    have HB4 := hide ((unhide HB3).trans (b4.mono (unhide HB3).size))
    have HO4 := hide o4
    have HSZ := hide b4.size
    have HL4 : Hid ((putB (putB (num8 k.toNat) d) (txt s)).length = 24 + nd + ns) := hide (by rw [putB_len, unhide HL3, txt_len, unhide HNS]; omega)
    have HX4 : Hid (putB (putB (num8 k.toNat) d) (txt s) ++ bh = num8 k.toNat ++ (num8 d.length ++ (d ++ (num8 (nats s).length ++ (nats s ++ bh))))) := hide (by simp only [putB, txt_nats, List.append_assoc])
    have HG4 : Hid (∀ y ∈ putB (putB (num8 k.toNat) d) (txt s), y < 256) := hide (putB_256 (putB_256 (num8_256 _) (unhide HD8)) (by rw [txt_nats]; exact nats_lt s))
    obtain ⟨P4, hP4⟩ : ∃ P4, putB (putB (num8 k.toNat) d) (txt s) = P4 := ⟨_, rfl⟩
    rw [hP4] at HO4 HL4 HX4 HG4
    have HLD3 := hide (byt_low (unhide HD3))
    have HS3 := hide (unhide HB3).size
    clear o4 b4 hP4 HD3 HE3 HB3 HY3 HL3

    obtain ⟨i0, hi, hz0, hz1, hz2⟩ := info_parts info5
    rcases unhide HE4 with ⟨e0, e1⟩ | ⟨a, cap, e0, f1, f2, f3⟩
    · injection e0 with e2 e3 e4
      subst e2 e3 e4
      have HL5 : Hid ((P4 ++ bh).length = 24 + nd + ns + 0) := hide (by rw [List.length_append, unhide HL4, e1]; rfl)
      have HO5 : Hid (w4.ownsRow w3.heap.size 5 1 v4 (P4 ++ bh).length (bv (P4 ++ bh))) := hide (by rw [e1, List.append_nil]; exact unhide HO4)
      have HY5 := hide (Byt.of_own (unhide HO5))
      have HD5 := HD4
      have HB5 := HB4
      have HPB := hide e1
      rcases Joins.ownsRow_forms (unhide HO4) with ⟨_, hz⟩ | ⟨g4, cp4, rfl⟩
      · rw [unhide HL4] at hz; omega
      have hcp : P4.length ≤ cp4 := by
        obtain ⟨_, ⟨h, _⟩ | ⟨g', cap', cur, hv', _, _, h1, _⟩⟩ := unhide HO4
        · cases h
        · cases hv'; exact h1
      rw [unhide HL4] at hcp ⊢
      rw [unhide HL4] at HY5
      clear e1 HE4 HD4 HB4
      obtain ⟨w5, hw5⟩ : ∃ w5, w4 = w5 := ⟨_, rfl⟩
      subst hw5
      rename World => w5
      go_wp2_with fail

      -- v5 owns P4 ++ bh in w5
      refine Calls.mono (read_any _ (P4 ++ bh) w5 (unhide HY5) (by rw [unhide HL5]; omega)) ?_
      rintro e w6 ⟨v6, g, rfl, hg6, r6, y6, l6, b6⟩
      have HD6 := hide ((unhide HD5).call b6)
      have HB6 := hide ((unhide HB5).trans (b6.mono (unhide HB5).size))
      have HBG := hide (show w.heap.size ≤ g from Nat.le_trans (unhide HB5).size hg6)
      obtain ⟨a6, c6, rfl⟩ := byt_shape y6
      rw [unhide HL5] at r6 y6 l6
      have HR6 := hide r6
      have HY6 := hide y6
      have HW6 := hide l6
      have HLD : Hid (Low (.slice ad nd cd) g) := hide (by have := byt_low (unhide HD5); exact this.mono hg6)
      have HF := hide (five (num8 k.toNat) (num8 d.length) d (num8 (nats s).length) (nats s) bh (num8_len _) (num8_len _) (num8_len _) (P4 ++ bh) (unhide HX4))
      have HG : Hid (∀ y ∈ P4 ++ bh, y < 256) := hide (by
        intro y hy
        rcases List.mem_append.1 hy with h | h
        · exact unhide HG4 y h
        · exact unhide HB8 y h)
      clear b6 r6 y6 l6 hg6 HD5 HB5 HY5
      go_wp2_with fail
      refine Calls.mono (Number_any g a6 _ c6 (P4 ++ bh) 0 w6 (unhide HY6) (unhide HR6) (unhide HW6) (by omega) (by omega) (unhide HG) k.toNat (by rw [(unhide HF).1]; exact num8_num _ (by omega)) (by omega)) ?_
      rintro e w7 ⟨rfl, r7, b7⟩
      have HR7 := hide r7
      have HY7 := hide ((unhide HY6).low b7 (unhide HW6))
      have HD7 := hide ((unhide HD6).low b7 (unhide HLD))
      have HB7 := hide ((unhide HB6).trans (b7.mono (unhide HBG)))
      clear b7 r7 HR6 HY6 HD6 HB6
      go_wp2_with fail
      refine Calls.mono (Bytes_x g a6 _ c6 (P4 ++ bh) 8 (nd : Int) w7 (unhide HY7) (unhide HR7) (unhide HW6) (by omega) (unhide HG) nd (by rw [(unhide HF).2.1, num8_num _ (by have := unhide HND; omega), unhide HND]) (by omega) (by omega)) ?_
      rintro e w8 ⟨v8, rfl, y8, h8, r8, b8, o8⟩
      rw [show 8 + 8 = 16 from rfl, ← unhide HND, (unhide HF).2.2.1] at y8
      obtain ⟨a8, c8, rfl⟩ := byt_shape y8
      rw [unhide HND] at y8 h8 ⊢
      have HR8 := hide r8
      have HY8 := hide ((unhide HY7).low b8 (unhide HW6))
      have HD8' := hide ((unhide HD7).low b8 (unhide HLD))
      have HB8' := hide ((unhide HB7).trans (b8.mono (unhide HBG)))
      have HV8 := hide y8
      have HH8 := hide h8
      clear y8 h8 r8 b8 o8 HR7 HY7 HD7 HB7
      go_wp2_with fail
      refine Calls.mono (counts_any s w8 (by have := unhide HNS; omega)) ?_
      rintro e w9 ⟨rfl, pos, rfl⟩
      have b9 : Below w8.heap.size w8 (w8.alloc (.stringIter s pos)) := (Below.refl _ _).alloc (Nat.le_refl _) _
      have HGZ := hide (show g < w8.heap.size from (unhide HR8).1.2)
      have HR9 := hide ((unhide HR8).below (b9.mono (unhide HGZ)))
      have HY9 := hide ((unhide HY8).call b9)
      have HD9 := hide ((unhide HD8').call b9)
      have HV9 := hide ((unhide HV8).call b9)
      have HB9 := hide ((unhide HB8').trans (b9.mono (unhide HB8').size))
      have HU9 := hide (tabs_low (unhide HU) (unhide HB9))
      have HQ := hide (Lib.runeCount_le s)
      have HQ4 := hide (size_le4 s)
      generalize w8.alloc (.stringIter s pos) = w9 at *
      clear b9 HR8 HY8 HD8' HV8 HB8' HGZ
      obtain ⟨q, hq⟩ : ∃ q, Lib.runeCount s = q := ⟨_, rfl⟩
      rw [hq] at HQ HQ4 ⊢
      have HC := hide hq
      clear hq
      by_cases hlong : 16384 < q
      · go_wp2_with fail
        refine Calls.mono (Text_long g a6 _ c6 (P4 ++ bh) (16 + nd) s q w9 (unhide HU9) (unhide HY9) (unhide HR9) (unhide HW6) (by omega) (unhide HG) (by have h := (unhide HF).2.2.2.1; rw [unhide HND] at h; rw [h, num8_num _ (by rw [nats_len]; have := unhide HNS; omega), nats_len]) (by have := unhide HNS; omega) (by have h := (unhide HF).2.2.2.2; rw [unhide HND, nats_len] at h; exact h) (unhide HV) hlong (by have := unhide HQ; have := unhide HNS; omega) (by rw [unhide HC]; exact hlong) (by have := unhide HNS; omega)) ?_
        rintro e w10 ⟨⟨tt, rfl⟩, b10, o10⟩
        have HD10 := hide ((unhide HD9).low b10 (unhide HLD))
        have HV10 := hide ((unhide HV9).oth o10 (unhide HH8))
        have HB10 := hide ((unhide HB9).trans (b10.mono (unhide HBG)))
        have hlz : (16384 : Int) < (q : Int) := by omega
        clear b10 o10 HR9 HY9 HD9 HV9 HB9
        go_wp2_with fail
        refine Calls.mono (counts_any s w10 (by have := unhide HNS; omega)) ?_
        rintro e w11 ⟨rfl, pos2, rfl⟩
        rw [unhide HC]
        have b11 : Below w10.heap.size w10 (w10.alloc (.stringIter s pos2)) := (Below.refl _ _).alloc (Nat.le_refl _) _
        have HD11 := hide ((unhide HD10).call b11)
        have HV11 := hide ((unhide HV10).call b11)
        have HB11 := hide ((unhide HB10).trans (b11.mono (unhide HB10).size))
        generalize w10.alloc (.stringIter s pos2) = w11 at *
        clear b11 HD10 HV10 HB10
        have hmx : (k.toNat : Int) = max k 0 := by omega
        have hmb : ((k.toNat : Int) == max k 0) = true := by simp [hmx]
        go_wp2_with fail
        refine Calls.mono (equal_any _ _ d d w11 (unhide HV11) (unhide HD11) (unhide HD8) (unhide HD8)) ?_
        rintro e wq ⟨rfl, rfl⟩
        rw [beq_self_eq_true]
        have HTT := hide ((unhide HT).below (unhide HB11))
        go_wp2_with (go_at_call 9; refine (awake_any _ (unhide HTT)).mono ?_; rintro e w' ⟨rfl, b12⟩)
        go_ret
        exact ⟨rfl, (unhide HB11).trans (b12.mono (unhide HB11).size)⟩
      · go_wp2_with fail
        refine Calls.mono (Text_any g a6 _ c6 (P4 ++ bh) (16 + nd) s q w9 (unhide HU9) (unhide HY9) (unhide HR9) (unhide HW6) (by omega) (unhide HG) (by have h := (unhide HF).2.2.2.1; rw [unhide HND] at h; rw [h, num8_num _ (by rw [nats_len]; have := unhide HNS; omega), nats_len]) (by have := unhide HNS; omega) (by have h := (unhide HF).2.2.2.2; rw [unhide HND, nats_len] at h; exact h) (unhide HV) (by omega) (by rw [unhide HC]; omega) (unhide HQ4)) ?_
        rintro e w10 ⟨rfl, r10, b10, o10⟩
        have HR10 := hide r10
        have HD10 := hide ((unhide HD9).low b10 (unhide HLD))
        have HV10 := hide ((unhide HV9).oth o10 (unhide HH8))
        have HB10 := hide ((unhide HB9).trans (b10.mono (unhide HBG)))
        have hlz : ¬ (16384 : Int) < (q : Int) := by omega
        clear b10 o10 r10 HR9 HY9 HD9 HV9 HB9
        go_wp2_with fail
        refine Calls.mono (counts_any s w10 (by have := unhide HNS; omega)) ?_
        rintro e w11 ⟨rfl, pos2, rfl⟩
        rw [unhide HC]
        have b11 : Below w10.heap.size w10 (w10.alloc (.stringIter s pos2)) := (Below.refl _ _).alloc (Nat.le_refl _) _
        have HR11 := hide ((unhide HR10).below (b11.mono (unhide HR10).1.2))
        have HD11 := hide ((unhide HD10).call b11)
        have HV11 := hide ((unhide HV10).call b11)
        have HB11 := hide ((unhide HB10).trans (b11.mono (unhide HB10).size))
        generalize w10.alloc (.stringIter s pos2) = w11 at *
        clear b11 HD10 HV10 HB10 HR10
        have hmx : (k.toNat : Int) = max k 0 := by omega
        have hmb : ((k.toNat : Int) == max k 0) = true := by simp [hmx]
        go_wp2_with fail
        refine Calls.mono (equal_any _ _ d d w11 (unhide HV11) (unhide HD11) (unhide HD8) (unhide HD8)) ?_
        rintro e wq ⟨rfl, rfl⟩
        rw [beq_self_eq_true]
        have hss : (s.toList == s.toList) = true := beq_self_eq_true _
        go_wp2_with fail
        refine Calls.mono (Left_any g a6 _ c6 _ 0 w11 (unhide HR11) (by have := unhide HNS; omega) (by omega)) ?_
        rintro e w12 ⟨rfl, dq, rfl⟩
        have b12 : Below w11.heap.size w11 (w11.drewN dq) := Joins.below_draws _ _ dq
        have HB12 := hide ((unhide HB11).trans (b12.mono (unhide HB11).size))
        have HR12 := hide ((unhide HR11).below (b12.mono (unhide HR11).1.2))
        generalize w11.drewN dq = w12 at *
        have hlf : (((24 + nd + ns + 0 : Nat) : Int) - ((16 + nd + 8 + s.size : Nat) : Int)) = ((0 : Nat) : Int) := by have := unhide HNS; omega
        rw [hlf]
        clear b12
        go_wp2_with fail
        refine Calls.mono (err_any g _ _ 0 w12 (unhide HR12)) ?_
        rintro e wq ⟨rfl, rfl⟩
        have HTT := hide ((unhide HT).below (unhide HB12))
        go_wp2_with (go_at_call 9; refine (awake_any _ (unhide HTT)).mono ?_; rintro e w' ⟨rfl, b13⟩)
        go_ret
        exact ⟨rfl, (unhide HB12).trans (b13.mono (unhide HB12).size)⟩
    · have hnews := hide (Byt.news f3)
      have hbd : Hid (∀ j u, (bv bh)[j]? = some u → (a.add j).block < w4.heap.size) := hide (fun j u hj => lt_of_cell (unhide hnews j u hj))
      injection e0 with e2 e3 e4
      subst e2 e4
      have HE3 := hide e3
      clear e3
      have HFC := hide f1
      rw [← unhide HE3] at HFC
      clear f3
      go_wp2_with (at_builtin; refine wpList_append_own _ rfl _ _ 22 rfl w3.heap.size 5 i0 (.int .u8 0) 1 1 Tryd.underlying22 hi hz0 hz1 hz2 rfl (by decide) _ _ _ rfl (unhide HO4) a nb cb (bv bh) rfl ?c0 ?c1 ?c2 ?c3 ?c4 ?c5 ?_)
      case c0 => rw [bv_len, unhide HNB]; omega
      case c1 => intro j u hj; exact unhide hnews j u hj
      case c2 => exact bv_one bh
      case c3 => rw [unhide HL4]; unfold maxLen; omega
      case c4 => rw [unhide HL4]; omega
      case c5 => exact unhide HSZ
      intro v5 w5 hown' hgrow' _
      have b5 : Below w3.heap.size w4 w5 := (Below.refl _ _).grown hgrow' (unhide HSZ) (fun k hk => ((unhide HO4).lt k hk).1)
      have HL5 : Hid ((P4 ++ bh).length = 24 + nd + ns + nb) := hide (by rw [List.length_append, unhide HL4, unhide HNB])
      have HO5 : Hid (w5.ownsRow w3.heap.size 5 1 v5 (P4 ++ bh).length (bv (P4 ++ bh))) := hide (own_cast hown' (by rw [List.length_append, unhide HNB]) (by rw [bv_append]))
      have HY5 := hide (Byt.of_own (unhide HO5))
      have HD5 := hide ((unhide HD4).low b5 (unhide HLD3))
      have HB5 := hide ((unhide HB4).trans (b5.mono (unhide HS3)))
      clear b5 hown' hgrow' HE4 HD4 HB4 hnews hbd HO5
      go_wp2_with fail

      -- v5 owns P4 ++ bh in w5
      refine Calls.mono (read_any _ (P4 ++ bh) w5 (unhide HY5) (by rw [unhide HL5]; omega)) ?_
      rintro e w6 ⟨v6, g, rfl, hg6, r6, y6, l6, b6⟩
      have HD6 := hide ((unhide HD5).call b6)
      have HB6 := hide ((unhide HB5).trans (b6.mono (unhide HB5).size))
      have HBG := hide (show w.heap.size ≤ g from Nat.le_trans (unhide HB5).size hg6)
      obtain ⟨a6, c6, rfl⟩ := byt_shape y6
      rw [unhide HL5] at r6 y6 l6
      have HR6 := hide r6
      have HY6 := hide y6
      have HW6 := hide l6
      have HLD : Hid (Low (.slice ad nd cd) g) := hide (by have := byt_low (unhide HD5); exact this.mono hg6)
      have HF := hide (five (num8 k.toNat) (num8 d.length) d (num8 (nats s).length) (nats s) bh (num8_len _) (num8_len _) (num8_len _) (P4 ++ bh) (unhide HX4))
      have HG : Hid (∀ y ∈ P4 ++ bh, y < 256) := hide (by
        intro y hy
        rcases List.mem_append.1 hy with h | h
        · exact unhide HG4 y h
        · exact unhide HB8 y h)
      clear b6 r6 y6 l6 hg6 HD5 HB5 HY5
      go_wp2_with fail
      refine Calls.mono (Number_any g a6 _ c6 (P4 ++ bh) 0 w6 (unhide HY6) (unhide HR6) (unhide HW6) (by omega) (by omega) (unhide HG) k.toNat (by rw [(unhide HF).1]; exact num8_num _ (by omega)) (by omega)) ?_
      rintro e w7 ⟨rfl, r7, b7⟩
      have HR7 := hide r7
      have HY7 := hide ((unhide HY6).low b7 (unhide HW6))
      have HD7 := hide ((unhide HD6).low b7 (unhide HLD))
      have HB7 := hide ((unhide HB6).trans (b7.mono (unhide HBG)))
      clear b7 r7 HR6 HY6 HD6 HB6
      go_wp2_with fail
      refine Calls.mono (Bytes_x g a6 _ c6 (P4 ++ bh) 8 (nd : Int) w7 (unhide HY7) (unhide HR7) (unhide HW6) (by omega) (unhide HG) nd (by rw [(unhide HF).2.1, num8_num _ (by have := unhide HND; omega), unhide HND]) (by omega) (by omega)) ?_
      rintro e w8 ⟨v8, rfl, y8, h8, r8, b8, o8⟩
      rw [show 8 + 8 = 16 from rfl, ← unhide HND, (unhide HF).2.2.1] at y8
      obtain ⟨a8, c8, rfl⟩ := byt_shape y8
      rw [unhide HND] at y8 h8 ⊢
      have HR8 := hide r8
      have HY8 := hide ((unhide HY7).low b8 (unhide HW6))
      have HD8' := hide ((unhide HD7).low b8 (unhide HLD))
      have HB8' := hide ((unhide HB7).trans (b8.mono (unhide HBG)))
      have HV8 := hide y8
      have HH8 := hide h8
      clear y8 h8 r8 b8 o8 HR7 HY7 HD7 HB7
      go_wp2_with fail
      refine Calls.mono (counts_any s w8 (by have := unhide HNS; omega)) ?_
      rintro e w9 ⟨rfl, pos, rfl⟩
      have b9 : Below w8.heap.size w8 (w8.alloc (.stringIter s pos)) := (Below.refl _ _).alloc (Nat.le_refl _) _
      have HGZ := hide (show g < w8.heap.size from (unhide HR8).1.2)
      have HR9 := hide ((unhide HR8).below (b9.mono (unhide HGZ)))
      have HY9 := hide ((unhide HY8).call b9)
      have HD9 := hide ((unhide HD8').call b9)
      have HV9 := hide ((unhide HV8).call b9)
      have HB9 := hide ((unhide HB8').trans (b9.mono (unhide HB8').size))
      have HU9 := hide (tabs_low (unhide HU) (unhide HB9))
      have HQ := hide (Lib.runeCount_le s)
      have HQ4 := hide (size_le4 s)
      generalize w8.alloc (.stringIter s pos) = w9 at *
      clear b9 HR8 HY8 HD8' HV8 HB8' HGZ
      obtain ⟨q, hq⟩ : ∃ q, Lib.runeCount s = q := ⟨_, rfl⟩
      rw [hq] at HQ HQ4 ⊢
      have HC := hide hq
      clear hq
      by_cases hlong : 16384 < q
      · go_wp2_with fail
        refine Calls.mono (Text_long g a6 _ c6 (P4 ++ bh) (16 + nd) s q w9 (unhide HU9) (unhide HY9) (unhide HR9) (unhide HW6) (by omega) (unhide HG) (by have h := (unhide HF).2.2.2.1; rw [unhide HND] at h; rw [h, num8_num _ (by rw [nats_len]; have := unhide HNS; omega), nats_len]) (by have := unhide HNS; omega) (by have h := (unhide HF).2.2.2.2; rw [unhide HND, nats_len] at h; exact h) (unhide HV) hlong (by have := unhide HQ; have := unhide HNS; omega) (by rw [unhide HC]; exact hlong) (by have := unhide HNS; omega)) ?_
        rintro e w10 ⟨⟨tt, rfl⟩, b10, o10⟩
        have HD10 := hide ((unhide HD9).low b10 (unhide HLD))
        have HV10 := hide ((unhide HV9).oth o10 (unhide HH8))
        have HB10 := hide ((unhide HB9).trans (b10.mono (unhide HBG)))
        have hlz : (16384 : Int) < (q : Int) := by omega
        clear b10 o10 HR9 HY9 HD9 HV9 HB9
        go_wp2_with fail
        refine Calls.mono (counts_any s w10 (by have := unhide HNS; omega)) ?_
        rintro e w11 ⟨rfl, pos2, rfl⟩
        rw [unhide HC]
        have b11 : Below w10.heap.size w10 (w10.alloc (.stringIter s pos2)) := (Below.refl _ _).alloc (Nat.le_refl _) _
        have HD11 := hide ((unhide HD10).call b11)
        have HV11 := hide ((unhide HV10).call b11)
        have HB11 := hide ((unhide HB10).trans (b11.mono (unhide HB10).size))
        generalize w10.alloc (.stringIter s pos2) = w11 at *
        clear b11 HD10 HV10 HB10
        have hmx : (k.toNat : Int) = max k 0 := by omega
        have hmb : ((k.toNat : Int) == max k 0) = true := by simp [hmx]
        go_wp2_with fail
        refine Calls.mono (equal_any _ _ d d w11 (unhide HV11) (unhide HD11) (unhide HD8) (unhide HD8)) ?_
        rintro e wq ⟨rfl, rfl⟩
        rw [beq_self_eq_true]
        have HTT := hide ((unhide HT).below (unhide HB11))
        go_wp2_with (go_at_call 9; refine (awake_any _ (unhide HTT)).mono ?_; rintro e w' ⟨rfl, b12⟩)
        go_ret
        exact ⟨rfl, (unhide HB11).trans (b12.mono (unhide HB11).size)⟩
      · go_wp2_with fail
        refine Calls.mono (Text_any g a6 _ c6 (P4 ++ bh) (16 + nd) s q w9 (unhide HU9) (unhide HY9) (unhide HR9) (unhide HW6) (by omega) (unhide HG) (by have h := (unhide HF).2.2.2.1; rw [unhide HND] at h; rw [h, num8_num _ (by rw [nats_len]; have := unhide HNS; omega), nats_len]) (by have := unhide HNS; omega) (by have h := (unhide HF).2.2.2.2; rw [unhide HND, nats_len] at h; exact h) (unhide HV) (by omega) (by rw [unhide HC]; omega) (unhide HQ4)) ?_
        rintro e w10 ⟨rfl, r10, b10, o10⟩
        have HR10 := hide r10
        have HD10 := hide ((unhide HD9).low b10 (unhide HLD))
        have HV10 := hide ((unhide HV9).oth o10 (unhide HH8))
        have HB10 := hide ((unhide HB9).trans (b10.mono (unhide HBG)))
        have hlz : ¬ (16384 : Int) < (q : Int) := by omega
        clear b10 o10 r10 HR9 HY9 HD9 HV9 HB9
        go_wp2_with fail
        refine Calls.mono (counts_any s w10 (by have := unhide HNS; omega)) ?_
        rintro e w11 ⟨rfl, pos2, rfl⟩
        rw [unhide HC]
        have b11 : Below w10.heap.size w10 (w10.alloc (.stringIter s pos2)) := (Below.refl _ _).alloc (Nat.le_refl _) _
        have HR11 := hide ((unhide HR10).below (b11.mono (unhide HR10).1.2))
        have HD11 := hide ((unhide HD10).call b11)
        have HV11 := hide ((unhide HV10).call b11)
        have HB11 := hide ((unhide HB10).trans (b11.mono (unhide HB10).size))
        generalize w10.alloc (.stringIter s pos2) = w11 at *
        clear b11 HD10 HV10 HB10 HR10
        have hmx : (k.toNat : Int) = max k 0 := by omega
        have hmb : ((k.toNat : Int) == max k 0) = true := by simp [hmx]
        go_wp2_with fail
        refine Calls.mono (equal_any _ _ d d w11 (unhide HV11) (unhide HD11) (unhide HD8) (unhide HD8)) ?_
        rintro e wq ⟨rfl, rfl⟩
        rw [beq_self_eq_true]
        have hss : (s.toList == s.toList) = true := beq_self_eq_true _
        go_wp2_with fail
        refine Calls.mono (Left_any g a6 _ c6 _ 0 w11 (unhide HR11) (by have := unhide HNS; omega) (by omega)) ?_
        rintro e w12 ⟨rfl, dq, rfl⟩
        have b12 : Below w11.heap.size w11 (w11.drewN dq) := Joins.below_draws _ _ dq
        have HB12 := hide ((unhide HB11).trans (b12.mono (unhide HB11).size))
        have HR12 := hide ((unhide HR11).below (b12.mono (unhide HR11).1.2))
        generalize w11.drewN dq = w12 at *
        have hlf : (((24 + nd + ns + nb : Nat) : Int) - ((16 + nd + 8 + s.size : Nat) : Int)) = ((nb : Nat) : Int) := by have := unhide HNS; omega
        rw [hlf]
        clear b12
        go_wp2_with fail
        refine Calls.mono (err_any g _ _ 0 w12 (unhide HR12)) ?_
        rintro e wq ⟨rfl, rfl⟩
        have HTT := hide ((unhide HT).below (unhide HB12))
        go_wp2_with (go_at_call 9; refine (awake_any _ (unhide HTT)).mono ?_; rintro e w' ⟨rfl, b13⟩)
        go_ret
        exact ⟨rfl, (unhide HB12).trans (b13.mono (unhide HB12).size)⟩
end Go.Proofs.YtbahnkomdndmkacDoor
