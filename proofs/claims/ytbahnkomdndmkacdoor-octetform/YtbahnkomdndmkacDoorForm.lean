/- For any bytes the Go function sealskinlaw02.OctetForm returns true, and its argument reads as it did. No condition. -/
import Derived.Test.YtbahnkomdndmkacDoorForm0
namespace Go.Proofs.YtbahnkomdndmkacDoor.form
set_option linter.unusedVariables false
set_option linter.unusedSimpArgs false
open Go.ChangeShapes Go.WideShapes Go.ChangeAt Go.RowKit Go.Joins

theorem putA (A : Nat) (w : World) (hA : A ≤ 9223372036854775807) : Calls Tryd.prog 39 #[.slice none 0 0, .slice (some ⟨w.heap.size, 0, none⟩) 1 1] (w.alloc (.cells #[.int .i64 (A : Int)] 3)) fun e w' => ∃ v', e = .returned v' ∧ Byt w' v' (num8 A) ∧ Below w.heap.size w w' := by
  have hB : Below w.heap.size w (w.alloc (.cells #[.int .i64 (A : Int)] 3)) := (Below.refl _ _).alloc (Nat.le_refl _) _
  refine (put_any (.slice none 0 0) [] w.heap.size 1 1 (fun _ => (A : Int)) _ (nil_byt _) (by decide) (by decide) (by simp) ?_).mono ?_
  · intro i hi
    obtain rfl : i = 0 := by omega
    exact ⟨by simp [go_sem], by omega, by omega⟩
  · rintro e w' ⟨v', rfl, ho, hb⟩
    exact ⟨v', rfl, Byt.of_own ho, hB.trans (hb.mono hB.size)⟩

theorem num_cases (l : List Nat) : (8 ≤ l.length ∧ numOf (l.take 8) ≤ 9223372036854775807) ∨ ∃ e, BadNum l 0 0 9223372036854775807 e := by
  by_cases h8 : l.length < 8
  · exact .inr ⟨2, .inl ⟨by omega, rfl⟩⟩
  by_cases h1 : 9223372036854775807 < numOf (l.take 8)
  · exact .inr ⟨5, .inr ⟨by omega, .inl (by rw [List.drop_zero]; exact h1), rfl⟩⟩
  · exact .inl ⟨by omega, by omega⟩
theorem bytes_cases (l : List Nat) (most : Int) (hm : 0 ≤ most) : (8 + numOf (l.take 8) ≤ l.length ∧ (numOf (l.take 8) : Int) ≤ most) ∨ ∃ e, BadBytes l 0 most e := by
  obtain ⟨m, hm'⟩ : ∃ m, numOf ((l.drop 0).take 8) = m := ⟨_, rfl⟩
  have hm2 : numOf (l.take 8) = m := by rw [← hm', List.drop_zero]
  rw [hm2]
  by_cases h8 : l.length < 8
  · exact .inr ⟨2, .inl ⟨by omega, rfl⟩⟩
  by_cases h1 : 9223372036854775807 < m
  · exact .inr ⟨5, .inr (.inl ⟨by omega, by rw [hm']; exact h1, rfl⟩)⟩
  by_cases h2 : most < (m : Int)
  · exact .inr ⟨4, .inr (.inr (.inl ⟨by omega, by rw [hm']; omega, by rw [hm']; omega, rfl⟩))⟩
  by_cases h3 : l.length < 8 + m
  · exact .inr ⟨2, .inr (.inr (.inr ⟨by omega, by rw [hm']; omega, by rw [hm']; omega, by rw [hm']; omega, rfl⟩))⟩
  · exact .inl ⟨by omega, by omega⟩
theorem put_pre {l : List Nat} (h256 : ∀ y ∈ l, y < 256) (h : 8 + numOf (l.take 8) ≤ l.length) : putB [] ((l.drop 8).take (numOf (l.take 8))) = l.take (8 + numOf (l.take 8)) := by
  have hlen : ((l.drop 8).take (numOf (l.take 8))).length = numOf (l.take 8) := by rw [List.length_take, List.length_drop]; omega
  rw [putB, hlen, List.nil_append, num8_numOf _ (by rw [List.length_take]; omega) (fun y hy => h256 y (List.mem_of_mem_take hy)), List.take_add]

theorem no_bytes {l : List Nat} {e : Int} {m : Nat} (h : BadBytes l 0 32768 e) (hG : Good l m) : False := by
  obtain ⟨h1, h2, h3, _⟩ := hG
  unfold BadBytes at h
  rw [List.drop_zero, h1] at h
  omega
theorem no_num {l : List Nat} {e : Int} (h : BadNum l 0 0 9223372036854775807 e) (h1 : 8 + numOf (l.take 8) ≤ l.length) (h2 : (numOf (l.take 8) : Int) ≤ 32768) : False := by
  unfold BadNum at h
  rw [List.drop_zero] at h
  omega
theorem cap_le {w : World} {a : Option Addr} {n cap : Nat} {l : List Nat} (h : Byt w (.slice a n cap) l) : cap ≤ maxLen := by
  rcases h with ⟨e, _⟩ | ⟨b, c, e, _, h2, _⟩
  · injection e with e1 e2 e3; unfold maxLen; omega
  · injection e with e1 e2 e3; omega
theorem some_of {w : World} {a : Option Addr} {n cap : Nat} {l : List Nat} (h : Byt w (.slice a n cap) l) (hn : 0 < n) : ∃ b, a = some b := by
  rcases h with ⟨e, _⟩ | ⟨b, c, e, _⟩
  · injection e with e1 e2 e3; omega
  · injection e with e1 e2 e3; exact ⟨b, e1⟩
theorem pre_byt {w : World} {a : Addr} {n cap k : Nat} {l : List Nat} (h : Byt w (.slice (some a) n cap) l) (hk : k ≤ n) (hl : (l.take k).length = k) : Byt w (.slice (some a) k cap) (l.take k) := by
  rcases h with ⟨e, _⟩ | ⟨a', cap', e, h1, h2, h3⟩
  · cases e
  · injection e with e1 e2 e3
    injection e1 with e1
    subst e1 e3
    refine .inr ⟨a, cap, by rw [hl], by rw [hl]; omega, h2, fun i y hy => ?_⟩
    have hi : i < k := by
      by_cases hi : i < k
      · exact hi
      · rw [List.getElem?_eq_none (by rw [hl]; omega)] at hy; cases hy
    rw [List.getElem?_take_of_lt hi] at hy
    exact h3 i y hy

set_option maxHeartbeats 4000000 in
theorem walk (v : Value) (l : List Nat) (w : World) (hT : Tabs w) (hv : Byt w v l) (h256 : ∀ y ∈ l, y < 256) (hm : ∀ a n cap, v = .slice a n cap → cap ≤ maxLen) :
    Calls Tryd.prog 7 #[v] w fun e w' => e = .returned (.bool true) ∧ Below w.heap.size w w' := by
  obtain ⟨a, cap, rfl⟩ := byt_shape hv
  obtain ⟨n, hn⟩ : ∃ n, l.length = n := ⟨_, rfl⟩
  have H256 := hide h256
  have HN := hide hn
  rw [hn] at hv ⊢
  have hmn : (n : Int) ≤ 9223372036854775807 := by
    have h1 := hm a n cap (by rw [hn])
    have h2 : n ≤ cap := by
      rcases hv with ⟨h, _⟩ | ⟨a', cap', h, h1, _, _⟩
      · injection h with e1 e2 e3; omega
      · injection h with e1 e2 e3; omega
    unfold maxLen at h1
    omega
  clear h256 hm
  by_cases hlen : 32768 < n
  · have t1 : decide ((32768 : Int) < (n : Int)) = true := by simp; omega
    clear hv hn
    go_enter Tryd.func7, Tryd.ntmps7
    go_wp2_with (go_at_call 9; refine (awake_any _ hT).mono ?_; rintro e w3 ⟨rfl, b3⟩)
    go_ret
    exact ⟨rfl, b3⟩
  have t1 : decide ((32768 : Int) < (n : Int)) = false := by simp; omega
  have hn1 : n ≤ 1000000000 := by omega
  have hnl : l.length ≤ 1000000000 := by omega
  have hcapn : n ≤ cap ∧ cap ≤ maxLen := by
    rcases hv with ⟨h, _⟩ | ⟨a', cap', h, h1, h2, _⟩
    · injection h with e1 e2 e3; unfold maxLen; omega
    · injection h with e1 e2 e3
      subst e3
      exact ⟨by omega, h2⟩
  have HV := hide hv
  clear hv hn
  go_enter Tryd.func7, Tryd.ntmps7
  go_wp2_with fail
  refine (read_any _ l _ (unhide HV) hnl).mono ?_
  rintro e w1 ⟨v1, g1, rfl, hg1, R1, Y1, L1, hb1⟩
  obtain ⟨a1, cap1, rfl⟩ := byt_shape Y1
  rw [unhide HN] at R1 Y1 L1
  have V1 := hide ((unhide HV).call hb1)
  have T1 := hT.below hb1
  have K1 := hide R1
  have P1 := hide Y1
  clear R1 Y1
  rcases num_cases l with ⟨h8, hUm⟩ | ⟨e0, hb0⟩
  · obtain ⟨U, hU⟩ : ∃ U, numOf (l.take 8) = U := ⟨_, rfl⟩
    have HU := hide hU
    have hBC := bytes_cases l 32768 (by decide)
    rw [hU] at hUm hBC
    rw [unhide HN] at h8 hBC
    have hCC := cases l
    clear hU
    rcases hBC with ⟨hU8, hUmost⟩ | ⟨e1, hb1'⟩
    · rcases hCC with ⟨m, hG⟩ | ⟨e2, hb2'⟩
      · obtain rfl : m = U := by rw [← unhide HU, ← hG.1]
        have HG := hide hG
        clear hG
        go_wp2_with fail
        refine (Number_any g1 a1 n cap1 l 0 _ (unhide P1) (unhide K1) L1 hn1 (by omega) (unhide H256) m (by rw [List.drop_zero]; exact unhide HU) hUm).mono ?_
        rintro e w2 ⟨rfl, R2, hb2⟩
        have B2 : Below w.heap.size w1 w2 := hb2.mono hg1
        have D2 : Below w.heap.size w w2 := hb1.trans B2
        have V2 := hide ((unhide HV).call D2)
        have K2 := hide R2
        clear R2
        go_wp2_with fail
        refine (err_any g1 _ _ 0 _ (unhide K2)).mono ?_
        rintro e w2' ⟨rfl, rfl⟩
        go_wp2_with fail
        refine (putA m w2 hUm).mono ?_
        rintro e w3 ⟨v3, rfl, Y3, hb3⟩
        have D3 : Below w.heap.size w w3 := D2.trans (hb3.mono D2.size)
        have V3 := (unhide HV).call D3
        obtain ⟨a0, rfl⟩ := some_of V3 (by omega)
        have V3' := hide V3
        clear V3
        have K3 := hide ((unhide K2).below (hb3.mono (unhide K2).1.2))
        go_wp2_with fail
        refine (prefix_any a0 n cap _ l (num8 m) _ (unhide V3') Y3 (unhide H256) (num8_256 m) (by rw [num8_len]; omega) (by rw [num8_len, ← unhide HU, num8_numOf _ (by rw [List.length_take, unhide HN]; omega) (fun y hy => unhide H256 y (List.mem_of_mem_take hy))])).mono ?_
        rintro e w4 ⟨rfl, d4, rfl⟩
        have K4 := hide ((unhide K3).below (Joins.below_draws _ _ d4))
        have D4 : Below w.heap.size w (w3.drewN d4) := D3.trans (Joins.below_draws _ _ d4)
        clear Y3
        generalize w3.drewN d4 = w4 at *
        go_wp2_with fail
        refine (err_any g1 _ _ 0 _ (unhide K4)).mono ?_
        rintro e w4' ⟨rfl, rfl⟩
        have V4 := hide ((unhide HV).call D4)
        go_wp2_with fail
        refine (read_any _ l _ (unhide V4) hnl).mono ?_
        rintro e w5 ⟨v5, g5, rfl, hg5, R5, Y5, L5, hb5⟩
        obtain ⟨a5, cap5, rfl⟩ := byt_shape Y5
        rw [unhide HN] at R5 Y5 L5
        have K5 := hide R5
        have P5 := hide Y5
        clear R5 Y5
        have D5 : Below w.heap.size w w5 := D4.trans (hb5.mono D4.size)
        have hg5' : w.heap.size ≤ g5 := Nat.le_trans D4.size hg5
        go_wp2_with fail
        refine (Bytes_any g5 a5 n cap5 l 0 32768 _ (unhide P5) (unhide K5) L5 hn1 (unhide H256) m (by rw [List.drop_zero]; exact unhide HU) (by omega) (by omega)).mono ?_
        rintro e w6 ⟨v6, rfl, Y6, R6, hb6⟩
        have D6 : Below w.heap.size w w6 := D5.trans (hb6.mono hg5')
        obtain ⟨a6, cap6, rfl⟩ := byt_shape Y6
        have hl6 : ((l.drop (0 + 8)).take m).length = m := by rw [List.length_take, List.length_drop, unhide HN]; omega
        rw [hl6] at Y6 ⊢
        clear hl6
        have Q6 := hide Y6
        clear Y6
        go_wp2_with fail
        refine (err_any g5 _ _ 0 _ R6).mono ?_
        rintro e w6' ⟨rfl, rfl⟩
        clear R6
        go_wp2_with fail
        refine (putbytes_any _ _ [] _ _ (nil_byt _) (unhide Q6) (by decide) (by rw [List.length_take]; omega)).mono ?_
        rintro e w7 ⟨v7, rfl, ho7, hb7⟩
        have Y7 := hide (Byt.of_own ho7)
        clear ho7
        have D7 : Below w.heap.size w w7 := D6.trans (hb7.mono D6.size)
        have hpp := put_pre (unhide H256) (by rw [unhide HU, unhide HN]; omega)
        rw [unhide HU] at hpp
        have HPP := hide hpp
        clear hpp
        go_wp2_with fail
        refine (prefix_any a0 n cap _ l _ _ ((unhide HV).call D7) (unhide Y7) (unhide H256) (putB_256 (fun y hy => by cases hy) (fun y hy => unhide H256 y (List.mem_of_mem_drop (List.mem_of_mem_take hy)))) (by rw [Nat.zero_add, unhide HPP, List.length_take]; omega) (by rw [Nat.zero_add, unhide HPP, List.length_take, unhide HN, Nat.min_eq_left (by omega)])).mono ?_
        rintro e w8 ⟨rfl, d8, rfl⟩
        have D8 : Below w.heap.size w (w7.drewN d8) := D7.trans (Joins.below_draws _ _ d8)
        generalize w7.drewN d8 = w8 at *
        have V8 := (unhide HV).call D8
        have T8 := hT.below D8
        have hop := open_any _ n cap l _ V8 (byt_low V8) hn1 (unhide H256) m (unhide HG).1 (by have := (unhide HG).2.1; rw [unhide HN] at this; exact this) (unhide HG).2.2.1 (unhide HG).2.2.2
        have HOP := hide hop
        clear hop V8
        have hU4 : 8 + m + 4 ≤ n := by have := (unhide HG).2.1; rw [unhide HN] at this; exact this
        have hU16 := (unhide HG).2.2.1
        go_wp2_with fail
        refine (unhide HOP).mono ?_
        rintro e w9 ⟨v9, rfl, Y9, hb9⟩
        have D9 := D8.trans (hb9.mono D8.size)
        obtain ⟨a9, cap9, rfl⟩ := byt_shape Y9
        have hl9 : ((l.drop 8).take m).length = m := by rw [List.length_take, List.length_drop, unhide HN]; omega
        rw [hl9] at Y9 ⊢
        clear hl9
        have Q9 := hide Y9
        clear Y9
        go_wp2_with fail
        refine (seal_any _ _ _ (unhide Q9) (fun y hy => unhide H256 y (List.mem_of_mem_drop (List.mem_of_mem_take hy))) (by rw [List.length_take]; omega)).mono ?_
        rintro e w10 ⟨v10, rfl, ho10, hb10⟩
        have D10 := D9.trans (hb10.mono D9.size)
        have Y10 := Byt.of_own ho10
        clear ho10
        have hgs := good_seal (unhide HG) (unhide H256)
        rw [← hgs] at Y10
        obtain ⟨a10, cap10, rfl⟩ := byt_shape Y10
        have hl10 : (l.take (8 + m + 4)).length = 8 + m + 4 := by rw [List.length_take, unhide HN]; omega
        rw [hl10] at Y10 ⊢
        have V10 := (unhide HV).call D10
        have S10 : Byt w10 (.slice (some a0) (8 + m + 4) cap) (l.take (8 + m + 4)) := pre_byt V10 (by omega) hl10
        have hEq := equal_any _ _ _ _ _ Y10 S10 (fun y hy => unhide H256 y (List.mem_of_mem_take hy)) (fun y hy => unhide H256 y (List.mem_of_mem_take hy))
        have t9 : ((strOf (l.take (8 + m + 4))).toList == (strOf (l.take (8 + m + 4))).toList) = true := by simp
        rw [t9] at hEq
        have HEQ := hide hEq
        clear hEq t9 Y10 V10 S10 hgs hl10
        have T10 := hT.below D10
        obtain ⟨M, hM⟩ : ∃ M : Nat, 8 + m + 4 = M := ⟨_, rfl⟩
        rw [hM] at HEQ hU4 ⊢
        have c1 : (0 : Int) ≤ (M : Int) := by omega
        have c2 : (M : Int) ≤ (cap : Int) := by omega
        have c3 : M ≤ cap := by omega
        go_wp2_with (first
          | (go_at_call 13; refine (unhide HEQ).mono ?_; rintro e w11 ⟨rfl, rfl⟩)
          | (go_at_call 9; refine (awake_any _ T10).mono ?_; rintro e w12 ⟨rfl, b12⟩))
        go_ret
        exact ⟨rfl, D10.trans (b12.mono D10.size)⟩
      · have hpos2 := badBlock_pos hb2'
        have HB2 := hide hb2'
        clear hb2'
        go_wp2_with fail
        refine (Number_any g1 a1 n cap1 l 0 _ (unhide P1) (unhide K1) L1 hn1 (by omega) (unhide H256) U (by rw [List.drop_zero]; exact unhide HU) hUm).mono ?_
        rintro e w2 ⟨rfl, R2, hb2⟩
        have B2 : Below w.heap.size w1 w2 := hb2.mono hg1
        have D2 : Below w.heap.size w w2 := hb1.trans B2
        have V2 := hide ((unhide HV).call D2)
        have K2 := hide R2
        clear R2
        go_wp2_with fail
        refine (err_any g1 _ _ 0 _ (unhide K2)).mono ?_
        rintro e w2' ⟨rfl, rfl⟩
        go_wp2_with fail
        refine (putA U w2 hUm).mono ?_
        rintro e w3 ⟨v3, rfl, Y3, hb3⟩
        have D3 : Below w.heap.size w w3 := D2.trans (hb3.mono D2.size)
        have V3 := (unhide HV).call D3
        obtain ⟨a0, rfl⟩ := some_of V3 (by omega)
        have V3' := hide V3
        clear V3
        have K3 := hide ((unhide K2).below (hb3.mono (unhide K2).1.2))
        go_wp2_with fail
        refine (prefix_any a0 n cap _ l (num8 U) _ (unhide V3') Y3 (unhide H256) (num8_256 U) (by rw [num8_len]; omega) (by rw [num8_len, ← unhide HU, num8_numOf _ (by rw [List.length_take, unhide HN]; omega) (fun y hy => unhide H256 y (List.mem_of_mem_take hy))])).mono ?_
        rintro e w4 ⟨rfl, d4, rfl⟩
        have K4 := hide ((unhide K3).below (Joins.below_draws _ _ d4))
        have D4 : Below w.heap.size w (w3.drewN d4) := D3.trans (Joins.below_draws _ _ d4)
        clear Y3
        generalize w3.drewN d4 = w4 at *
        go_wp2_with fail
        refine (err_any g1 _ _ 0 _ (unhide K4)).mono ?_
        rintro e w4' ⟨rfl, rfl⟩
        have V4 := hide ((unhide HV).call D4)
        go_wp2_with fail
        refine (read_any _ l _ (unhide V4) hnl).mono ?_
        rintro e w5 ⟨v5, g5, rfl, hg5, R5, Y5, L5, hb5⟩
        obtain ⟨a5, cap5, rfl⟩ := byt_shape Y5
        rw [unhide HN] at R5 Y5 L5
        have K5 := hide R5
        have P5 := hide Y5
        clear R5 Y5
        have D5 : Below w.heap.size w w5 := D4.trans (hb5.mono D4.size)
        have hg5' : w.heap.size ≤ g5 := Nat.le_trans D4.size hg5
        go_wp2_with fail
        refine (Bytes_any g5 a5 n cap5 l 0 32768 _ (unhide P5) (unhide K5) L5 hn1 (unhide H256) U (by rw [List.drop_zero]; exact unhide HU) (by omega) (by omega)).mono ?_
        rintro e w6 ⟨v6, rfl, Y6, R6, hb6⟩
        have D6 : Below w.heap.size w w6 := D5.trans (hb6.mono hg5')
        obtain ⟨a6, cap6, rfl⟩ := byt_shape Y6
        have hl6 : ((l.drop (0 + 8)).take U).length = U := by rw [List.length_take, List.length_drop, unhide HN]; omega
        rw [hl6] at Y6 ⊢
        clear hl6
        have Q6 := hide Y6
        clear Y6
        go_wp2_with fail
        refine (err_any g5 _ _ 0 _ R6).mono ?_
        rintro e w6' ⟨rfl, rfl⟩
        clear R6
        go_wp2_with fail
        refine (putbytes_any _ _ [] _ _ (nil_byt _) (unhide Q6) (by decide) (by rw [List.length_take]; omega)).mono ?_
        rintro e w7 ⟨v7, rfl, ho7, hb7⟩
        have Y7 := hide (Byt.of_own ho7)
        clear ho7
        have D7 : Below w.heap.size w w7 := D6.trans (hb7.mono D6.size)
        have hpp := put_pre (unhide H256) (by rw [unhide HU, unhide HN]; omega)
        rw [unhide HU] at hpp
        have HPP := hide hpp
        clear hpp
        go_wp2_with fail
        refine (prefix_any a0 n cap _ l _ _ ((unhide HV).call D7) (unhide Y7) (unhide H256) (putB_256 (fun y hy => by cases hy) (fun y hy => unhide H256 y (List.mem_of_mem_drop (List.mem_of_mem_take hy)))) (by rw [Nat.zero_add, unhide HPP, List.length_take]; omega) (by rw [Nat.zero_add, unhide HPP, List.length_take, unhide HN, Nat.min_eq_left (by omega)])).mono ?_
        rintro e w8 ⟨rfl, d8, rfl⟩
        have D8 : Below w.heap.size w (w7.drewN d8) := D7.trans (Joins.below_draws _ _ d8)
        generalize w7.drewN d8 = w8 at *
        have V8 := (unhide HV).call D8
        have T8 := hT.below D8
        have hop := open_bad _ n cap l e2 _ V8 (byt_low V8) hn1 (unhide H256) (unhide HB2)
        have HOP := hide hop
        clear hop V8
        have s2 : (e2 != 0) = true := by simpa using hpos2
        go_wp2_with fail
        refine (unhide HOP).mono ?_
        rintro e w9 ⟨rfl, hb9⟩
        have D9 := D8.trans (hb9.mono D8.size)
        have T9 := hT.below D9
        go_wp2_with (go_at_call 9; refine (awake_any _ T9).mono ?_; rintro e w10 ⟨rfl, b10⟩)
        go_ret
        exact ⟨rfl, D9.trans (b10.mono D9.size)⟩
    · have hpos1 := bad_pos hb1'
      have HB1 := hide hb1'
      clear hb1'
      rcases hCC with ⟨m, hG⟩ | ⟨e2, hb2'⟩
      · exfalso
        exact no_bytes (unhide HB1) hG
      have hpos2 := badBlock_pos hb2'
      have HB2 := hide hb2'
      clear hb2'
      go_wp2_with fail
      refine (Number_any g1 a1 n cap1 l 0 _ (unhide P1) (unhide K1) L1 hn1 (by omega) (unhide H256) U (by rw [List.drop_zero]; exact unhide HU) hUm).mono ?_
      rintro e w2 ⟨rfl, R2, hb2⟩
      have B2 : Below w.heap.size w1 w2 := hb2.mono hg1
      have D2 : Below w.heap.size w w2 := hb1.trans B2
      have V2 := hide ((unhide HV).call D2)
      have K2 := hide R2
      clear R2
      go_wp2_with fail
      refine (err_any g1 _ _ 0 _ (unhide K2)).mono ?_
      rintro e w2' ⟨rfl, rfl⟩
      go_wp2_with fail
      refine (putA U w2 hUm).mono ?_
      rintro e w3 ⟨v3, rfl, Y3, hb3⟩
      have D3 : Below w.heap.size w w3 := D2.trans (hb3.mono D2.size)
      have V3 := (unhide HV).call D3
      obtain ⟨a0, rfl⟩ := some_of V3 (by omega)
      have V3' := hide V3
      clear V3
      have K3 := hide ((unhide K2).below (hb3.mono (unhide K2).1.2))
      go_wp2_with fail
      refine (prefix_any a0 n cap _ l (num8 U) _ (unhide V3') Y3 (unhide H256) (num8_256 U) (by rw [num8_len]; omega) (by rw [num8_len, ← unhide HU, num8_numOf _ (by rw [List.length_take, unhide HN]; omega) (fun y hy => unhide H256 y (List.mem_of_mem_take hy))])).mono ?_
      rintro e w4 ⟨rfl, d4, rfl⟩
      have K4 := hide ((unhide K3).below (Joins.below_draws _ _ d4))
      have D4 : Below w.heap.size w (w3.drewN d4) := D3.trans (Joins.below_draws _ _ d4)
      clear Y3
      generalize w3.drewN d4 = w4 at *
      go_wp2_with fail
      refine (err_any g1 _ _ 0 _ (unhide K4)).mono ?_
      rintro e w4' ⟨rfl, rfl⟩
      have V4 := hide ((unhide HV).call D4)
      go_wp2_with fail
      refine (read_any _ l _ (unhide V4) hnl).mono ?_
      rintro e w5 ⟨v5, g5, rfl, hg5, R5, Y5, L5, hb5⟩
      obtain ⟨a5, cap5, rfl⟩ := byt_shape Y5
      rw [unhide HN] at R5 Y5 L5
      have K5 := hide R5
      have P5 := hide Y5
      clear R5 Y5
      have D5 : Below w.heap.size w w5 := D4.trans (hb5.mono D4.size)
      have hg5' : w.heap.size ≤ g5 := Nat.le_trans D4.size hg5
      go_wp2_with fail
      refine (Bytes_bad g5 a5 n cap5 l 0 32768 e1 _ (unhide P5) (unhide K5) L5 hn1 (by omega) (unhide H256) (unhide HB1)).mono ?_
      rintro e w6 ⟨v6, rfl, Y6, R6, hb6⟩
      have D6 : Below w.heap.size w w6 := D5.trans (hb6.mono hg5')
      obtain ⟨a6, cap6, rfl⟩ := byt_shape Y6
      clear Y6
      have r3 : (e1 == 0) = false := by simpa using hpos1
      have r5 : ¬ e1 = 0 := hpos1
      go_wp2_with fail
      refine (err_any g5 _ _ e1 _ R6).mono ?_
      rintro e w8 ⟨rfl, rfl⟩
      clear R6
      have D8 := D6
      have V8 := (unhide HV).call D8
      have T8 := hT.below D8
      have hop := open_bad _ n cap l e2 _ V8 (byt_low V8) hn1 (unhide H256) (unhide HB2)
      have HOP := hide hop
      clear hop V8
      have s2 : (e2 != 0) = true := by simpa using hpos2
      go_wp2_with fail
      refine (unhide HOP).mono ?_
      rintro e w9 ⟨rfl, hb9⟩
      have D9 := D8.trans (hb9.mono D8.size)
      have T9 := hT.below D9
      go_wp2_with (go_at_call 9; refine (awake_any _ T9).mono ?_; rintro e w10 ⟨rfl, b10⟩)
      go_ret
      exact ⟨rfl, D9.trans (b10.mono D9.size)⟩
  · have hpos := badNum_pos hb0
    have HB := hide hb0
    clear hb0
    rcases bytes_cases l 32768 (by decide) with hh | ⟨e1, hb1'⟩
    · exfalso
      exact no_num (unhide HB) hh.1 (by have := hh.2; omega)
    have hpos1 := bad_pos hb1'
    have HB1 := hide hb1'
    clear hb1'
    rcases cases l with ⟨m, hG⟩ | ⟨e2, hb2'⟩
    · exfalso
      exact no_bytes (unhide HB1) hG
    have hpos2 := badBlock_pos hb2'
    have HB2 := hide hb2'
    clear hb2'
    go_wp2_with fail
    refine (Number_bad g1 a1 n cap1 l 0 e0 _ (unhide P1) (unhide K1) L1 hn1 (by omega) (unhide H256) (unhide HB)).mono ?_
    rintro e w2 ⟨rfl, R2, hb2⟩
    have B2 : Below w.heap.size w1 w2 := hb2.mono hg1
    have D2 : Below w.heap.size w w2 := hb1.trans B2
    have K2 := hide R2
    clear R2
    have t2 : (e0 != 0) = true := by simpa using hpos
    have t3 : (e0 == 0) = false := by simpa using hpos
    have t5 : ¬ e0 = 0 := hpos
    go_wp2_with fail
    refine (err_any g1 _ _ e0 _ (unhide K2)).mono ?_
    rintro e w2' ⟨rfl, rfl⟩
    go_wp2_with fail
    refine (err_any g1 _ _ e0 _ (unhide K2)).mono ?_
    rintro e w2' ⟨rfl, rfl⟩
    go_wp2_with fail
    refine (Left_any g1 a1 n cap1 0 e0 _ (unhide K2) (by omega) hn1).mono ?_
    rintro e w4 ⟨rfl, d4, rfl⟩
    have D4 : Below w.heap.size w (w2.drewN d4) := D2.trans (Joins.below_draws _ _ d4)
    generalize w2.drewN d4 = w4 at *
    have V4 := hide ((unhide HV).call D4)
    have t4 : (((n : Int) - ((0 : Nat) : Int)) != (n : Int)) = false := by simp
    have t6 : ((n : Int) - ((0 : Nat) : Int)) = (n : Int) := by omega
    go_wp2_with fail
    refine (read_any _ l _ (unhide V4) hnl).mono ?_
    rintro e w5 ⟨v5, g5, rfl, hg5, R5, Y5, L5, hb5⟩
    obtain ⟨a5, cap5, rfl⟩ := byt_shape Y5
    rw [unhide HN] at R5 Y5 L5
    have K5 := hide R5
    have P5 := hide Y5
    clear R5 Y5
    have D5 : Below w.heap.size w w5 := D4.trans (hb5.mono D4.size)
    have hg5' : w.heap.size ≤ g5 := Nat.le_trans D4.size hg5
    go_wp2_with fail
    refine (Bytes_bad g5 a5 n cap5 l 0 32768 e1 _ (unhide P5) (unhide K5) L5 hn1 (by omega) (unhide H256) (unhide HB1)).mono ?_
    rintro e w6 ⟨v6, rfl, Y6, R6, hb6⟩
    have D6 : Below w.heap.size w w6 := D5.trans (hb6.mono hg5')
    obtain ⟨a6, cap6, rfl⟩ := byt_shape Y6
    clear Y6
    have r3 : (e1 == 0) = false := by simpa using hpos1
    have r5 : ¬ e1 = 0 := hpos1
    go_wp2_with fail
    refine (err_any g5 _ _ e1 _ R6).mono ?_
    rintro e w8 ⟨rfl, rfl⟩
    clear R6
    have D8 := D6
    have V8 := (unhide HV).call D8
    have T8 := hT.below D8
    have hop := open_bad _ n cap l e2 _ V8 (byt_low V8) hn1 (unhide H256) (unhide HB2)
    have HOP := hide hop
    clear hop V8
    have s2 : (e2 != 0) = true := by simpa using hpos2
    go_wp2_with fail
    refine (unhide HOP).mono ?_
    rintro e w9 ⟨rfl, hb9⟩
    have D9 := D8.trans (hb9.mono D8.size)
    have T9 := hT.below D9
    go_wp2_with (go_at_call 9; refine (awake_any _ T9).mono ?_; rintro e w10 ⟨rfl, b10⟩)
    go_ret
    exact ⟨rfl, D9.trans (b10.mono D9.size)⟩

theorem contract (H : Type) (enc : TypeId × Value → H) (W : World) (base : Nat) (args : Array Value) (ds gs : List (DataW H)) (before : List MemPlace)
    (hval : ∀ (j : Nat) t v, Tryd.f7.params[j]? = some t → args[j]? = some v → Value.okWide Tryd.prog W .any base t v)
    (hW : DataW.Whole enc Tryd.prog Tryd.f7.params.toList Rows.octetFormSpec.vars false W args.toList ds gs before) (hL : laidMetH Tryd.prog Rows.octetFormRow.laid W) :
    Calls Tryd.prog 7 args W fun e W' => ∃ v, e = .returned v ∧ Rows.octetFormSpec.post enc Tryd.prog Tryd.f7 false true false false W args v W' := by
  have hT : Tabs W := tabs_of hL
  have hW' := hW
  obtain ⟨p, q, hA0, hV, rfl, hfz, hnd⟩ := hW
  have hA : DataW.TrodAll enc Tryd.prog W 0 (fun _ => true) true Tryd.f7.params.toList args.toList ds p := hA0
  rw [Tryd.params7] at hA hval
  obtain ⟨v0, vs0, d0, ds0, p0, q0, hargs, rfl, rfl, h0, r0⟩ := trodAll_cons hA
  obtain ⟨rfl, rfl, rfl⟩ := trodAll_nil r0
  obtain rfl : args = #[v0] := by cases args; simp_all
  obtain ⟨rfl, rfl⟩ := trodVars_none hV
  have lt0 : ∀ x ∈ p0, x.block < W.heap.size := by obtain ⟨m, hm⟩ := h0; exact DataW.trod_lt m _ _ _ hm
  obtain ⟨l, hY, h256⟩ := open_bytes (hval 0 22 v0 rfl rfl) h0
  clear hA0
  refine (walk v0 l W hT hY h256 (fun a n cap e => by subst e; exact cap_le hY)).mono fun e W' ⟨he, bel⟩ => ?_
  subst he
  exact ⟨_, rfl, _, _, _, [], _, [], hW', trodAll_mk1 (shut_bool Tryd.underlying4 _), (trodAll_cons_mk (Below.trod laidOut (by kernel_rfl) (of_decide_eq_true (by kernel_rfl)) h0 bel lt0) trodAll_mk0), rfl, bel.frame _, fun h => by cases h⟩

set_option maxRecDepth 100000 in
theorem laid_here (os : Os) : laidMet Tryd.prog Rows.octetFormRow.laid ((laidWorld os).forCall (fun _ _ => 0) ⟨#[], #[.slice none 0 0], []⟩).memory :=
  laidMet_of_run' 8 (by kernel_rfl) (by kernel_rfl)
theorem reads (os : Os) {H : Type} (enc : TypeId × Value → H) : ∃ places, DataW.whole enc Tryd.prog ((laidWorld os).forCall (fun _ _ => 0) ⟨#[], #[.slice none 0 0], []⟩).memory Tryd.f7.params.toList Rows.octetFormSpec.vars false (#[.slice none 0 0] : Array Value).toList 8 = some ([.nil], [], places) :=
  ⟨[], by kernel_rfl⟩

set_option maxRecDepth 100000 in
theorem lifted (os : Os) (started : os.Started) (H : Type) (enc : TypeId × Value → H) (F : Stop.Interp) :
    ReturnsInHanded {} Tryd.checked os 7 .any ((OpenSpec.ofChange Rows.octetFormSpec).preRow enc Tryd.prog Tryd.f7 Rows.octetFormRow.domain false Rows.octetFormRow.laid) (((OpenSpec.ofChange Rows.octetFormSpec).at F).post enc Tryd.prog Tryd.f7 false true false false) := by
  obtain ⟨places, hx⟩ := reads os enc
  refine returnsInHanded_of_row (C := Tryd.checked) (s := OpenSpec.ofChange Rows.octetFormSpec) own started (by kernel_rfl) Tryd.func7
    (witness_row_at (enc := enc) (C := Tryd.checked) false (laidWorld os) #[.slice none 0 0] rfl (by kernel_rfl) (by kernel_rfl) (by kernel_rfl)
      (OpenSpec.preRow_of_cond 8 hx (by kernel_rfl) (fun k hk => by cases hk) (by kernel_rfl) (laid_here os))) ?_
  intro W base args ds gs before hval hW _ _ _ hL _ _
  exact contract H enc W base args ds gs before hval hW hL

theorem said : Rows.OctetFormSaid :=
  OpenClaim.holds_of_cond 7 Tryd.f7 rfl rfl rfl rfl rfl rfl rfl ⟨rfl, rfl, rfl, rfl, rfl⟩ rfl rfl rfl rfl rfl (by kernel_rfl) Tryd.func7 (by kernel_rfl)
    (of_decide_eq_true (by kernel_rfl)) (by unfold Func.isWrapper; first | (rw [if_pos (by decide +kernel)]; kernel_rfl) | (rw [if_neg (by decide +kernel)]; exact ⟨rfl, rfl⟩))
    (fun os started H enc _ F => by rw [OpenClaim.pre_eq_preRow]; exact lifted os started H enc F)

theorem plain (f : FuncId) (fn : Func) (hf : Tryd.pinned.checked.prog.funcNamed "sealskin/sealskinlaw02.OctetForm" = some f) (hfn : Tryd.pinned.checked.prog.funcs[f]? = some fn) :
    false = Tryd.pinned.checked.prog.looks [] ∧ ∀ (j : Nat) t, fn.params[j]? = some t → Tryd.pinned.checked.prog.wantsStandIn t = false := by
  obtain rfl : f = 7 := Option.some.inj ((show Tryd.prog.funcNamed "sealskin/sealskinlaw02.OctetForm" = some 7 by kernel_rfl).symm.trans hf) |>.symm
  obtain rfl : fn = Tryd.f7 := (Option.some.inj (Tryd.func7.symm.trans hfn)).symm
  refine ⟨by kernel_rfl, fun j t ht => ?_⟩
  rw [Tryd.params7] at ht
  obtain rfl : t = 22 := by simpa using Array.mem_of_getElem? ht
  exact (show Tryd.prog.wantsStandIn 22 = false by kernel_rfl)

theorem proved : Rows.OctetFormCardSaid :=
  Claim7.holds_tied_plain_at .later [] _ _ _ _ said (fun _ h => by cases h) (by kernel_rfl) (fun _ h => by cases h) octetForm_row_tie rfl ⟨rfl, rfl⟩ (by kernel_rfl) rfl plain (by kernel_rfl)
#print axioms proved
end Go.Proofs.YtbahnkomdndmkacDoor.form
