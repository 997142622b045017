/- A call (does) on a desk that New made. -/
import Derived.Test.YthgacmlbmcehmaaDMade
namespace Go.Proofs.Ythgacmlbmcehmaa
set_option linter.unusedVariables false
set_option linter.unusedSimpArgs false
open Go.ChangeShapes Go.WideShapes Go.ChangeAt Go.RowKit Go.Joins Go.Deep

/-- how often a Tick is -/
def timesN (n : Int) : Nat := (wrap64 ((IntKind.u64.wrap n).tmod 25)).toNat + 1
theorem timesN_le (n : Int) : timesN n ≤ 25 ∧ 1 ≤ timesN n := by
  obtain ⟨j, hj, hj2⟩ := mod_nat n 25 (by omega) (by omega)
  unfold timesN
  rw [show wrap64 ((IntKind.u64.wrap n).tmod 25) = (j : Int) from hj]
  omega
def ticksD : Nat → List Gst → List Gst × List Int
  | 0, D => (D, [])
  | m + 1, D => ((ticksD m D).1.map ageG, (ticksD m D).2 ++ oversL (ticksD m D).1 (ticksD m D).1.length)
theorem ticksD_len (m : Nat) (D : List Gst) : (ticksD m D).1.length = D.length := by
  induction m with
  | zero => rfl
  | succ m ih => simp [ticksD, ih]
theorem ticksD_le (m : Nat) (D : List Gst) (h : D.length ≤ 8) : (ticksD m D).2.length ≤ 8 * m := by
  induction m with
  | zero => simp [ticksD]
  | succ m ih =>
    have h1 := oversL_le (ticksD m D).1 (ticksD m D).1.length
    rw [ticksD_len] at h1
    simp only [ticksD, List.length_append, ticksD_len]
    omega
/-- what a call does: the guests, whose sessions are over, the error -/
def doesD (Q : Nat → Int) (D : List Gst) (o who conn n : Int) : List Gst × List Int × Int :=
  if bits .and .i64 o 7 = 2 then ((wrongD D who).1, [], (wrongD D who).2)
  else if bits .and .i64 o 7 = 3 then ((openD Q D who).1, [], (openD Q D who).2)
  else if bits .and .i64 o 7 = 4 then ((openD Q D who).1, [], (openD Q D who).2)
  else if bits .and .i64 o 7 = 5 then ((heardD D who).1, [], (heardD D who).2)
  else if bits .and .i64 o 7 = 6 then ((shutD D who).1, [], (shutD D who).2)
  else if bits .and .i64 o 7 = 7 then ((ticksD (timesN n) D).1, (ticksD (timesN n) D).2, 0)
  else ((beginD D who conn).1, [], (beginD D who conn).2)
set_option maxRecDepth 100000 in
set_option maxHeartbeats 4000000 in
theorem times_any (o who conn n : Int) (w : World) :
    Calls Try.prog 21 #[.agg #[.int .i64 o, .int .i64 who, .int .i64 conn, .int .i64 n]] w fun r w' => r = .returned (.int .i64 (timesN n : Int)) ∧ Below w.heap.size w w' := by
  obtain ⟨j, hj, hj2⟩ := mod_nat n 25 (by omega) (by omega)
  have hw : wrap64 (1 + (j : Int)) = ((timesN n : Nat) : Int) := by
    unfold timesN
    rw [show wrap64 ((IntKind.u64.wrap n).tmod 25) = (j : Int) from hj]
    unfold wrap64; omega
  go_enter Try.func21, Try.ntmps21
  go_wp2_with fail
  go_ret
  refine ⟨?_, (Below.refl _ _).alloc (Nat.le_refl _) _⟩
  show Ending.returned (Value.int IntKind.i64 (wrap64 (1 + wrap64 ((IntKind.u64.wrap n).tmod 25)))) = _
  rw [show wrap64 ((IntKind.u64.wrap n).tmod 25) = (j : Int) from hj, hw]
/-- ticks that are under way -/
structure Tks (w wr : World) (g gg c nq : Nat) (sv : Value) (ex : List Value) (Q : Nat → Int) (D : List Gst) (k : Nat) (v : Value) : Prop where
  ds : Ds wr g gg c nq sv ex Q (ticksD k D).1
  own : wr.ownsRow w.heap.size 3 1 v (ticksD k D).2.length ((ticksD k D).2.map (Value.int IntKind.i64))
  only : Only (· = gg) w wr
theorem Tks.tick {w wr w3 w4 : World} {g gg c nq : Nat} {sv : Value} {ex : List Value} {Q : Nat → Int} {D : List Gst} {k : Nat} {v v' : Value} (h0 : Ds w g gg c nq sv ex Q D) (h : Tks w wr g gg c nq sv ex Q D k v)
    (hd : Ds w3 g gg c nq sv ex Q ((ticksD k D).1.map ageG)) (ho : Only (· = gg) wr w3) (ho4 : Only (fun q => v.ownBlock = some q) w3 w4)
    (hv : w4.ownsRow w.heap.size 3 1 v' (ticksD (k + 1) D).2.length ((ticksD (k + 1) D).2.map (Value.int IntKind.i64))) : Tks w w4 g gg c nq sv ex Q D (k + 1) v' := by
  have own3 := own_only h.own ho (fun q hq e => tag_ne h.own h.ds.dk.row (by decide) (e ▸ hq))
  have e1 : v.ownBlock ≠ some g := tag_ne own3 hd.dk.obj (by decide)
  have e2 : v.ownBlock ≠ some gg := tag_ne own3 hd.dk.row (by decide)
  have on : Only (· = gg) w w4 := (h.only.trans ho).next ho4 (fun q hq => .inr (own3.lt q hq).1)
  exact ⟨⟨⟨hd.dk.obj.only ho4 e1, hd.dk.row.only ho4 e2, hd.dk.pos, hd.dk.le⟩, h0.sq.turn h0.dk on, hd.gin, hd.n32⟩, hv, on⟩
set_option maxRecDepth 100000 in
set_option maxHeartbeats 4000000 in
theorem does_any {w : World} {g gg c nq : Nat} {sv : Value} {ex : List Value} {Q : Nat → Int} {D : List Gst} (h : Ds w g gg c nq sv ex Q D) (o who conn n : Int) :
    Calls Try.prog 16 #[.pointer (some ⟨g, 0, none⟩), .agg #[.int .i64 o, .int .i64 who, .int .i64 conn, .int .i64 n]] w fun r w' => ∃ v, r = .returned (.tuple #[v, .int .i64 (doesD Q D o who conn n).2.2]) ∧ Ds w' g gg c nq sv ex Q (doesD Q D o who conn n).1 ∧ Only (· = gg) w w' ∧
      w'.ownsRow w.heap.size 3 1 v (doesD Q D o who conn n).2.1.length ((doesD Q D o who conn n).2.1.map (Value.int IntKind.i64)) := by
  unfold doesD
  obtain ⟨z, hz⟩ : ∃ z, bits .and .i64 o 7 = z := ⟨_, rfl⟩
  rw [hz]
  have hb : Below w.heap.size w (w.alloc (.cells #[.int .i64 o, .int .i64 who, .int .i64 conn, .int .i64 n] 38)) := (Below.refl _ _).alloc (Nat.le_refl _) _
  have HB := hide hb
  have H0 := hide h
  have HH := hide (h.call hb)
  clear h hb
  by_cases z2 : z = 2
  · subst z2
    obtain ⟨P, hP⟩ : ∃ P, wrongD D who = P := ⟨_, rfl⟩
    have HC := hide (wrong_any (unhide HH) who)
    rw [hP] at HC ⊢
    clear hP
    simp only [Int.reduceEq, if_true, if_false]
    go_enter Try.func16, Try.ntmps16
    go_wp2_with fail
    refine Calls.mono (unhide HC) ?_
    rintro r w2 ⟨rfl, hd, ho⟩
    have HD := hide hd
    have HO := hide ((Only.of_below (unhide HB)).trans ho)
    clear hd ho HC
    go_wp2_with fail
    go_ret2
    exact ⟨_, rfl, unhide HD, unhide HO, World.ownsRow_nil _ _ _ _⟩
  have e2 : (z == 2) = false := by simp [z2]
  by_cases z3 : z = 3
  · subst z3
    obtain ⟨P, hP⟩ : ∃ P, openD Q D who = P := ⟨_, rfl⟩
    have HC := hide (open_any (unhide HH) who)
    rw [hP] at HC ⊢
    clear hP
    simp only [Int.reduceEq, if_true, if_false]
    go_enter Try.func16, Try.ntmps16
    go_wp2_with fail
    refine Calls.mono (unhide HC) ?_
    rintro r w2 ⟨rfl, hd, ho⟩
    have HD := hide hd
    have HO := hide ((Only.of_below (unhide HB)).trans ho)
    clear hd ho HC
    go_wp2_with fail
    go_ret2
    exact ⟨_, rfl, unhide HD, unhide HO, World.ownsRow_nil _ _ _ _⟩
  have e3 : (z == 3) = false := by simp [z3]
  by_cases z4 : z = 4
  · subst z4
    obtain ⟨P, hP⟩ : ∃ P, openD Q D who = P := ⟨_, rfl⟩
    have HC := hide (open_any (unhide HH) who)
    rw [hP] at HC ⊢
    clear hP
    simp only [Int.reduceEq, if_true, if_false]
    go_enter Try.func16, Try.ntmps16
    go_wp2_with fail
    refine Calls.mono (unhide HC) ?_
    rintro r w2 ⟨rfl, hd, ho⟩
    have HD := hide hd
    have HO := hide ((Only.of_below (unhide HB)).trans ho)
    clear hd ho HC
    go_wp2_with fail
    go_ret2
    exact ⟨_, rfl, unhide HD, unhide HO, World.ownsRow_nil _ _ _ _⟩
  have e4 : (z == 4) = false := by simp [z4]
  by_cases z5 : z = 5
  · subst z5
    obtain ⟨P, hP⟩ : ∃ P, heardD D who = P := ⟨_, rfl⟩
    have HC := hide (heard_any (unhide HH) who)
    rw [hP] at HC ⊢
    clear hP
    simp only [Int.reduceEq, if_true, if_false]
    go_enter Try.func16, Try.ntmps16
    go_wp2_with fail
    refine Calls.mono (unhide HC) ?_
    rintro r w2 ⟨rfl, hd, ho⟩
    have HD := hide hd
    have HO := hide ((Only.of_below (unhide HB)).trans ho)
    clear hd ho HC
    go_wp2_with fail
    go_ret2
    exact ⟨_, rfl, unhide HD, unhide HO, World.ownsRow_nil _ _ _ _⟩
  have e5 : (z == 5) = false := by simp [z5]
  by_cases z6 : z = 6
  · subst z6
    obtain ⟨P, hP⟩ : ∃ P, shutD D who = P := ⟨_, rfl⟩
    have HC := hide (shut_any (unhide HH) who)
    rw [hP] at HC ⊢
    clear hP
    simp only [Int.reduceEq, if_true, if_false]
    go_enter Try.func16, Try.ntmps16
    go_wp2_with fail
    refine Calls.mono (unhide HC) ?_
    rintro r w2 ⟨rfl, hd, ho⟩
    have HD := hide hd
    have HO := hide ((Only.of_below (unhide HB)).trans ho)
    clear hd ho HC
    go_wp2_with fail
    go_ret2
    exact ⟨_, rfl, unhide HD, unhide HO, World.ownsRow_nil _ _ _ _⟩
  have e6 : (z == 6) = false := by simp [z6]
  by_cases z7 : z = 7
  · subst z7
    clear z2 z3 z4 z5 z6 e2 e3 e4 e5 e6
    simp only [Int.reduceEq, if_true, if_false]
    have hm := timesN_le n
    have HT := hide (times_any o who conn n (w.alloc (.cells #[.int .i64 o, .int .i64 who, .int .i64 conn, .int .i64 n] 38)))
    obtain ⟨m, hmm⟩ : ∃ m, timesN n = m := ⟨_, rfl⟩
    rw [hmm] at hm HT ⊢
    obtain ⟨hm1, hm2⟩ := hm
    have hmI : (m : Int) ≤ 25 := by omega
    clear hmm
    go_enter Try.func16, Try.ntmps16
    go_wp2_with fail
    refine Calls.mono (unhide HT) ?_
    rintro r w2 ⟨rfl, hb⟩
    have HS : Hid (Tks w w2 g gg c nq sv ex Q D 0 (.slice none 0 0)) := hide ⟨(unhide HH).call hb, World.ownsRow_nil _ _ _ _, (Only.of_below (unhide HB)).trans (Only.of_below hb)⟩
    clear hb HH HB HT
    go_wp2_with fail
    go_loopw [6, 39] (fun v i wr => ∃ k : Nat, k ≤ m ∧ i = .int .i64 (k : Int) ∧ (∃ a n c, v = .slice a n c ∧ n ≤ c ∧ c ≤ maxLen) ∧ Hid (Tks w wr g gg c nq sv ex Q D k v)) (fun _ i _ => ((m : Int) - intOf i).toNat)
    case atStart => exact ⟨0, by omega, by simp, ⟨none, 0, 0, rfl, Nat.le_refl _, by unfold maxLen; omega⟩, HS⟩
    case round =>
      clear HS
      obtain ⟨k, hk, rfl, ⟨va, vn, vc, rfl, hvn, hvc⟩, HI⟩ := hrel
      by_cases hlt : k < m
      · have kI : (k : Int) < (m : Int) := by omega
        have hl8 : (ticksD k D).2.length ≤ 8 * k := ticksD_le k D (unhide H0).dk.le
        have ho8 := oversL_le (ticksD k D).1 (ticksD k D).1.length
        rw [ticksD_len] at ho8
        have hD8 := (unhide H0).dk.le
        go_wp2_with fail
        refine Calls.mono (tick_any (unhide HI).ds) ?_
        rintro r w3 ⟨v2, rfl, hd, ho, hv2, hnil⟩
        have HD3 := hide hd
        have HO3 := hide ho
        have HV2 := hide hv2
        have HOW := hide (own_only (unhide HI).own ho (fun q hq e => tag_ne (unhide HI).own (unhide HI).ds.dk.row (by decide) (e ▸ hq)))
        have HSZ := hide (Nat.le_trans (unhide HI).only.size ho.size)
        by_cases hov : oversL (ticksD k D).1 (ticksD k D).1.length = []
        · have hn := hnil hov
          subst hn
          have HE : Hid ((ticksD (k + 1) D).2 = (ticksD k D).2) := hide (by simp only [ticksD]; rw [hov, List.append_nil])
          clear hd ho hv2 hnil hov
          go_wp2_with (refine wpList_append_nil rfl _ _ rfl rfl va vn vc rfl hvn hvc rfl ?_)
          have HN : Hid (Tks w w3 g gg c nq sv ex Q D (k + 1) (.slice va vn vc)) := hide ((unhide HI).tick (unhide H0) (unhide HD3) (unhide HO3) (Only.refl _ _) (by rw [unhide HE]; exact unhide HOW))
          exact ⟨⟨k + 1, by omega, by simp, ⟨_, _, _, rfl, hvn, hvc⟩, HN⟩, by simp [intOf]; omega⟩
        · have hpos : 0 < (oversL (ticksD k D).1 (ticksD k D).1.length).length := List.length_pos_iff.2 hov
          obtain ⟨g2, c2, hv2s, _, _⟩ := hv2.form hpos
          have hln : (ticksD k D).2.length + (oversL (ticksD k D).1 (ticksD k D).1.length).length ≤ 1000 := by rw [ticksD_len]; omega
          subst hv2s
          have HP := hide hpos
          have HLN := hide hln
          clear hd ho hv2 hnil hov hpos hln
          go_wp2_with (refine wpList_append_ints rfl _ _ rfl w.heap.size wr.heap.size (.slice va vn vc) _ _ _ (ticksD k D).2 (oversL (ticksD k D).1 (ticksD k D).1.length) rfl (unhide HOW) (unhide HLN) (unhide HSZ) rfl (unhide HV2) (unhide HP) (fun v' w' hv' ho' => ?_); have HV' := hide hv'; have HO' := hide ho'; clear hv' ho')
          have HV3 : Hid (w'.ownsRow w.heap.size 3 1 v' (ticksD (k + 1) D).2.length ((ticksD (k + 1) D).2.map (Value.int IntKind.i64))) := hide (by simp only [ticksD, List.length_append]; exact unhide HV')
          have HN : Hid (Tks w w' g gg c nq sv ex Q D (k + 1) v') := hide ((unhide HI).tick (unhide H0) (unhide HD3) (unhide HO3) (unhide HO') (unhide HV3))
          have hsh : ∃ a n c, v' = .slice a n c ∧ n ≤ c ∧ c ≤ maxLen := by
            rcases (unhide HV3).2 with ⟨rfl, _⟩ | ⟨g', c', cur, rfl, _, _, q1, q2, _⟩
            · exact ⟨none, 0, 0, rfl, Nat.le_refl _, by unfold maxLen; omega⟩
            · exact ⟨_, _, _, rfl, q1, q2⟩
          exact ⟨⟨k + 1, by omega, by simp, hsh, HN⟩, by simp [intOf]; omega⟩
      · obtain rfl : k = m := by omega
        have kI : ¬ (k : Int) < (k : Int) := by omega
        go_wp2_with fail
        go_ret2
        exact ⟨_, rfl, (unhide HI).ds, (unhide HI).only, (unhide HI).own⟩
  have e7 : (z == 7) = false := by simp [z7]
  simp only [if_neg z2, if_neg z3, if_neg z4, if_neg z5, if_neg z6, if_neg z7]
  clear z2 z3 z4 z5 z6 z7
  obtain ⟨P, hP⟩ : ∃ P, beginD D who conn = P := ⟨_, rfl⟩
  have HC := hide (begin_any (unhide HH) who conn)
  rw [hP] at HC ⊢
  clear hP
  go_enter Try.func16, Try.ntmps16
  go_wp2_with fail
  refine Calls.mono (unhide HC) ?_
  rintro r w2 ⟨rfl, hd, ho⟩
  have HD := hide hd
  have HO := hide ((Only.of_below (unhide HB)).trans ho)
  clear hd ho HC
  go_wp2_with fail
  go_ret2
  exact ⟨_, rfl, unhide HD, unhide HO, World.ownsRow_nil _ _ _ _⟩
end Go.Proofs.Ythgacmlbmcehmaa
