/- For any calls, any file, any number and any bytes the Go function sealskinlaw05.DiskBegins returns true, and its arguments read as they did. No condition. -/
import Derived.Test.YtadjgljimikodaaConcat
import Derived.Deep.RegionHeld3
namespace Go.Proofs.Ytadjgljimikodaa.begins
set_option linter.unusedVariables false
set_option linter.unusedSimpArgs false
open Go.ChangeShapes Go.WideShapes Go.ChangeAt Go.RowKit Go.Joins

theorem byt_take {w : World} {a : Option Addr} {n m cap : Nat} {l : List Nat} (h : Byt w (.slice a n cap) l) (hn : l.length = n) (hm : m ≤ n) : Byt w (.slice a m cap) (l.take m) := by
  have hl : (l.take m).length = m := by rw [List.length_take]; omega
  rcases h with ⟨e, rfl⟩ | ⟨ad, cap', e, h1, h2, h3⟩
  · injection e with e1 e2 e3
    subst e1 e3
    obtain rfl : m = 0 := by omega
    exact .inl ⟨rfl, by simp⟩
  · injection e with e1 e2 e3
    subst e1 e3
    refine .inr ⟨ad, cap, by rw [hl], by omega, h2, fun i y hy => ?_⟩
    rw [List.getElem?_take] at hy
    split at hy
    · exact h3 i y hy
    · cases hy
/-- what a region holds: two cells, and all that was there -/
def SB (wr : World) (o1 o2 f : Nat) (v1 v2 : Value) (w' : World) : Prop := (w'.cell? ⟨o1, f, none⟩ = some v1 ∧ w'.cell? ⟨o2, f, none⟩ = some v2) ∧ Below wr.heap.size wr w'
theorem SB.drew {wr w' : World} {o1 o2 f : Nat} {v1 v2 : Value} (h : SB wr o1 o2 f v1 v2 w') : SB wr o1 o2 f v1 v2 w'.drew := ⟨h.1, h.2.drew⟩
theorem SB.call {wr w' w2 : World} {o1 o2 f : Nat} {v1 v2 : Value} (h : SB wr o1 o2 f v1 v2 w') (hb : Below w'.heap.size w' w2) : SB wr o1 o2 f v1 v2 w2 :=
  ⟨⟨cell_keep hb (lt_of_cell h.1.1) h.1.1, cell_keep hb (lt_of_cell h.1.2) h.1.2⟩, h.2.trans (hb.mono h.2.size)⟩
theorem SB.alloc {wr w' : World} {o1 o2 f : Nat} {v1 v2 : Value} (h : SB wr o1 o2 f v1 v2 w') (o : Obj) : SB wr o1 o2 f v1 v2 (w'.alloc o) := h.call ((Below.refl _ _).alloc (Nat.le_refl _) _)
theorem SB.bel {wr w' : World} {o1 o2 f : Nat} {v1 v2 : Value} (h : SB wr o1 o2 f v1 v2 w') : Below wr.heap.size wr w' := h.2

theorem put_other (d : DS) (f : Nat) (l : List Nat) (i : Nat) (h : i ≠ f) : (d.put f l).F i = d.F i := by simp [DS.put, upd, h]
theorem put_same (d : DS) (f : Nat) (l : List Nat) : (d.put f l).F f = d.F f ++ l.take (d.burnN l.length) := by simp [DS.put, upd]

set_option maxHeartbeats 8000000 in
theorem walk (a : Option Addr) (L : List Cl) (cap : Nat) (file n0 : Int) (ab : Option Addr) (cb : Nat) (lb : List Nat) (w : World) (hL : Dos w a L) (hc : L.length ≤ cap) (hm : cap ≤ maxLen) (hbb : Byt w (.slice ab lb.length cb) lb) (h256b : ∀ y ∈ lb, y < 256) :
    Calls Try.prog 4 #[.slice a L.length cap, .int .i64 file, .int .i64 n0, .slice ab lb.length cb] w fun e w' => e = .returned (.bool true) ∧ Below w.heap.size w w' := by
  have KS := hide (short_any a L cap w hL hc hm)
  have HL := hide hL
  have HBB := hide hbb
  have H256B := hide h256b
  have hcb : lb.length ≤ maxLen ∧ lb.length ≤ cb := by
    rcases hbb with ⟨e, h0⟩ | ⟨_, _, e, h1, h2, _⟩
    · injection e with _ e2 e3; unfold maxLen; omega
    · injection e with _ _ e3; omega
  unfold maxLen at hm hcb
  obtain ⟨nb, hnb⟩ : ∃ n, lb.length = n := ⟨_, rfl⟩
  rw [hnb] at hcb
  rw [hnb]
  have HNB := hide hnb
  obtain ⟨nl, hnl⟩ : ∃ n, L.length = n := ⟨_, rfl⟩
  rw [hnl] at hc KS
  rw [hnl]
  have HNL := hide hnl
  clear hL hbb hnb h256b hnl
  go_enter Try.func4, Try.ntmps4
  go_wp2_with fail
  refine (unhide KS).mono ?_
  rintro e w1 ⟨⟨r, rfl, hr⟩, rfl⟩
  cases r
  · clear hr
    go_wp2_with (go_at_call 12; refine (awake_any _).mono ?_; rintro e w' ⟨rfl, hb⟩)
    go_ret
    exact ⟨rfl, hb⟩
  have HR := hide (hr rfl)
  clear hr KS
  by_cases hbig : 16384 < nb
  · have i1 : (16384 : Int) < (nb : Int) := by omega
    go_wp2_with (go_at_call 12; refine (awake_any _).mono ?_; rintro e w' ⟨rfl, hb⟩)
    go_ret
    exact ⟨rfl, hb⟩
  have i1 : ¬ ((16384 : Int) < (nb : Int)) := by omega
  obtain ⟨f, hf, hf3⟩ := mod_nat file 3 (by decide) (by decide)
  obtain ⟨m, hmm, hm3⟩ := mod_nat n0 (nb + 2) (by omega) (by omega)
  rw [show ((3 : Nat) : Int) = 3 from rfl] at hf
  rw [show ((nb + 2 : Nat) : Int) = (nb : Int) + 2 by omega] at hmm
  have hnz : ¬ ((nb : Int) + 2 = 0) := by omega
  go_wp2_with fail
  go_quiet (fail)
  go_wp2_with fail
  rw [hf]
  have hbd : Below w.heap.size w (w.drewN nq) := Joins.below_draws _ _ nq
  generalize w.drewN nq = w0 at *
  have hsz0 : w.heap.size ≤ w0.heap.size := hbd.size
  have KM := lmade_any 4194304 a L cap w0 ((unhide HL).call hbd) (by rw [unhide HNL]; exact hc) (by unfold maxLen; exact hm) (by decide) (by decide)
  rw [unhide HNL] at KM
  have HBB0 := hide ((unhide HBB).call hbd)
  have HBD := hide hbd
  clear hbd
  refine KM.mono ?_
  clear KM
  rintro e w1 ⟨rfl, hat1, hb1⟩
  have hu1 : ((DS.start (Int.toNat 4194304)).run L).used ≤ 16384 := by
    have q := DS.run_used L (DS.start (Int.toNat 4194304))
    have q2 : (DS.start (Int.toNat 4194304)).used = 0 := by simp [DS.start, DS.used]
    have := (unhide HR).2
    omega
  have hro1 : ((DS.start (Int.toNat 4194304)).run L).room = 4194304 := DS.run_room L _
  have h2561 : ((DS.start (Int.toNat 4194304)).run L).B256 := DS.run256 L _ (fun i _ y hy => by cases hy) (fun c hc => ((unhide HL).1 c hc).b256)
  generalize (DS.start (Int.toNat 4194304)).run L = d1 at *
  have H2561 := hide h2561
  have KF := hide (files_x _ _ d1 w1 (AtX.of_at hat1) (fun k hk => Nat.lt_of_lt_of_le hk hb1.size))
  have HB1 := hide hb1
  clear hat1 hb1 h2561
  go_wp2_with fail
  refine (unhide KF).mono ?_
  clear KF
  rintro e w2 ⟨v0, v1, v2, rfl, hat2, hk2, m0, m1, m2⟩
  obtain ⟨b0, p0, rfl⟩ := m0.shape
  obtain ⟨b1, p1, rfl⟩ := m1.shape
  obtain ⟨b2, p2, rfl⟩ := m2.shape
  obtain ⟨w3, hw3⟩ : ∃ w3, w2.alloc (.cells #[.slice b0 (d1.F 0).length p0, .slice b1 (d1.F 1).length p1, .slice b2 (d1.F 2).length p2] 40) = w3 := ⟨_, rfl⟩
  have hout := Out.fresh w2 (.slice b0 (d1.F 0).length p0) (.slice b1 (d1.F 1).length p1) (.slice b2 (d1.F 2).length p2)
  have hal : Below w2.heap.size w2 w3 := by rw [← hw3]; exact (Below.refl _ _).alloc (Nat.le_refl _) _
  have hs3 : w3.heap.size = w2.heap.size + 1 := by rw [← hw3]; simp
  rw [hw3] at hout
  have hat3 := (hat2 (w2.heap.size + 1)).call hal
  have hz2 : w1.heap.size ≤ w2.heap.size := hk2.size
  have hB2 : Below w0.heap.size w0 w2 := (unhide HB1).trans (hk2.below (fun k hk => hk))
  have hBs := hB2.size
  have hX3 : ∀ k, (k < w0.heap.size ∨ (w1.heap.size ≤ k ∧ k < w2.heap.size + 1)) → k < w3.heap.size := by
    intro k hk
    rw [hs3]
    omega
  have KA := arm_x _ _ _ (1 + (m : Int)) _ hat3 hX3 (by omega)
  have hnj : ¬ (1 + (m : Int) < 1) := by omega
  rw [show ({ d1 with on := true } : DS).armE (1 + (m : Int)) = 0 by simp only [DS.armE, if_true, hnj, if_false]] at KA
  have KA := hide KA
  have HNEW := hide (And.intro (m0.call hal) (And.intro (m1.call hal) (m2.call hal)))
  have HOUT := hide hout
  have HB3 := hide (hB2.trans (hal.mono hBs))
  have HX3 := hide hX3
  have HW3 := hide hw3
  clear hat2 hk2 m0 m1 m2 hout hal hat3 hB2 hX3 hw3
  go_wp2_with fail
  rw [unhide HW3]
  refine (unhide KA).mono ?_
  clear KA
  rintro e w4 ⟨rfl, hat4, hk4⟩
  have hd4 : ({ d1 with on := true } : DS).armD (1 + (m : Int)) = { d1 with on := true, fuse := 1 + m } := by
    have e1 : (1 + (m : Int)).toNat = 1 + m := by omega
    have e2 : ¬ (1 + (m : Int) < 1) := by omega
    simp only [DS.armD, if_true, e1]
    rw [if_neg e2]
  rw [hd4] at hat4
  have hX4 : ∀ k, (k < w0.heap.size ∨ (w1.heap.size ≤ k ∧ k < w2.heap.size + 1)) → k < w4.heap.size := fun k hk => Nat.lt_of_lt_of_le (unhide HX3 k hk) hk4.size
  have hB4 := (unhide HB3).trans (hk4.below (fun k hk => .inl hk))
  have KP := append_x _ _ _ (f : Int) (.slice ab nb cb) lb w4 hat4 hX4 (by have q := (unhide HBB0).call hB4; rw [unhide HNB] at q; exact q) (fun hl => by have q := byt_far (unhide HBB) hsz0 hl; rw [unhide HNB] at q; exact q)
  have hinf : inF (f : Int) := by unfold inF; omega
  have hnf : ¬ (({ d1 with on := true, fuse := 1 + m } : DS).room < ({ d1 with on := true, fuse := 1 + m } : DS).used + lb.length) := by
    show ¬ (d1.room < d1.used + lb.length)
    rw [unhide HNB]; omega
  have hfz : ¬ (({ d1 with on := true, fuse := 1 + m } : DS).fuse = 0) := by show ¬ (1 + m = 0); omega
  rw [show ({ d1 with on := true, fuse := 1 + m } : DS).appE (f : Int) lb.length = (if 1 + m ≤ nb then 50 else 0) by
    simp only [DS.appE, hinf, hnf, if_true, if_false, DS.burnE, hfz]; rw [unhide HNB]] at KP
  rw [show ({ d1 with on := true, fuse := 1 + m } : DS).appD (f : Int) lb = ({ d1 with on := true, fuse := 1 + m } : DS).put f lb by
    simp only [DS.appD, hinf, hnf, if_true, if_false]; rfl] at KP
  have hbn : ({ d1 with on := true, fuse := 1 + m } : DS).burnN lb.length = min nb (1 + m) := by
    unfold DS.burnN; rw [if_neg hfz, unhide HNB]
  have hFo : ∀ i, i ≠ f → (({ d1 with on := true, fuse := 1 + m } : DS).put f lb).F i = d1.F i := fun i hi => put_other _ f lb i hi
  have hFs : (({ d1 with on := true, fuse := 1 + m } : DS).put f lb).F f = d1.F f ++ lb.take (min nb (1 + m)) := by rw [put_same, hbn]
  generalize ({ d1 with on := true, fuse := 1 + m } : DS).put f lb = d5 at *
  obtain ⟨er, her⟩ : ∃ er : Int, (if 1 + m ≤ nb then 50 else 0) = er := ⟨_, rfl⟩
  rw [her] at KP
  have HER := hide her
  clear her
  have KP := hide KP
  have HFO := hide hFo
  have HFS := hide hFs
  have HK4 := hide hk4
  have HX4 := hide hX4
  have HB4 := hide hB4
  clear hat4 hk4 hX4 hB4 hinf hnf hfz hbn hd4 hFo hFs
  go_wp2_with fail
  refine (unhide KP).mono ?_
  clear KP
  rintro e w5 ⟨rfl, hat5, hk5⟩
  have hX5 : ∀ k, (k < w0.heap.size ∨ (w1.heap.size ≤ k ∧ k < w2.heap.size + 1)) → k < w5.heap.size := fun k hk => Nat.lt_of_lt_of_le (unhide HX4 k hk) hk5.size
  have KF := hide (files_x _ _ d5 w5 hat5 hX5)
  have HK5 := hide ((unhide HK4).trans hk5)
  clear hat5 hk5 hX5
  go_wp2_with fail
  refine (unhide KF).mono ?_
  clear KF
  rintro e w6 ⟨y0, y1, y2, rfl, -, hk6, m0, m1, m2⟩
  obtain ⟨e0, s0, rfl⟩ := m0.shape
  obtain ⟨e1, s1, rfl⟩ := m1.shape
  obtain ⟨e2, s2, rfl⟩ := m2.shape
  have hk36 := (unhide HK5).trans hk6
  obtain ⟨w7, hw7⟩ : ∃ w7, w6.alloc (.cells #[.slice e0 (d5.F 0).length s0, .slice e1 (d5.F 1).length s1, .slice e2 (d5.F 2).length s2] 40) = w7 := ⟨_, rfl⟩
  have hnow := Out.fresh w6 (.slice e0 (d5.F 0).length s0) (.slice e1 (d5.F 1).length s1) (.slice e2 (d5.F 2).length s2)
  have hal : Below w6.heap.size w6 w7 := by rw [← hw7]; exact (Below.refl _ _).alloc (Nat.le_refl _) _
  have hs7 : w7.heap.size = w6.heap.size + 1 := by rw [← hw7]; simp
  rw [hw7] at hnow
  have hwas := hk36.out (unhide HOUT) (.inr ⟨by omega, by omega⟩)
  have hwl : w2.heap.size < w6.heap.size := lt_of_cell hwas.1.1
  have cov : ∀ x, w1.heap.size ≤ x → x < w3.heap.size → (x < w0.heap.size ∨ (w1.heap.size ≤ x ∧ x < w2.heap.size + 1)) := fun x h1 h2 => by omega
  have HY := hide (And.intro (And.intro ((hk36.new (unhide HNEW).1 cov).byt.call hal) (And.intro ((hk36.new (unhide HNEW).2.1 cov).byt.call hal) ((hk36.new (unhide HNEW).2.2 cov).byt.call hal))) (And.intro (m0.byt.call hal) (And.intro (m1.byt.call hal) (m2.byt.call hal))))
  have hB6 := (unhide HB3).trans (hk36.below (fun x hx => .inl hx))
  have HB7 := hide (hB6.trans (hal.mono hB6.size))
  have HO := hide (And.intro (hwas.keep (hal.mono hwl)) hnow)
  have HS7 := hide hs7
  have HW7 := hide hw7
  clear hk6 m0 m1 m2 hk36 hnow hal hs7 hwas cov hB6 hw7 HNEW HOUT
  go_wp2_with fail
  rw [unhide HW7]
  clear HW7
  go_loopw [13, 50] (fun _ i wr => ∃ q : Nat, q ≤ 3 ∧ i = .int .i64 q ∧ Below w7.heap.size w7 wr) (fun _ i _ => 3 - (intOf i).toNat)
  case atStart => exact ⟨0, by omega, rfl, Below.refl _ _⟩
  case round =>
    obtain ⟨q, hq, rfl, hbi⟩ := hrel
    obtain ⟨oa, ob⟩ := unhide HO
    have hs7 := unhide HS7
    obtain ⟨⟨xa0, xa1, xa2⟩, za0, za1, za2⟩ := oa.keep (hbi.mono (by omega))
    obtain ⟨⟨xb0, xb1, xb2⟩, zb0, zb1, zb2⟩ := ob.keep (hbi.mono (by omega))
    clear oa ob hs7 za0 za1 za2 zb0 zb1 zb2
    match q, hq with
    | 0, _ =>
      have HBI := hide hbi
      by_cases hfi : f = 0
      · have hfi3 : ((0 : Int) != (f : Int)) = false := by simp; omega
        have HFI := hide hfi
        clear hbi hfi
        go_wp2_with fail
        go_quiet (fail)
        have hbi2 := (unhide HBI).trans (Joins.below_draws _ _ nq)
        go_wp2
        go_roundw
        case rel => exact ⟨1, by omega, by go_num, hbi2⟩
        case measure => simp [intOf]
      · have hfi2 : ¬ ((0 : Int) = (f : Int)) := by omega
        have hfi3 : ((0 : Int) != (f : Int)) = true := by simpa using hfi2
        have efi := unhide HFO 0 (fun e => hfi e.symm)
        have HE := hide (p := ∀ n, Calls Try.prog 24 #[.slice b0 (d1.F 0).length p0, .slice e0 (d5.F 0).length s0] (wr.drewN n) fun e w' => e = .returned (.bool true) ∧ w' = wr.drewN n) (fun n =>
          (equal_same _ _ (d1.F 0) _ ((unhide HY).1.1.call (hbi.trans (Joins.below_draws _ _ n))) (by have q := (unhide HY).2.1.call (hbi.trans (Joins.below_draws _ _ n)); rw [← efi]; exact q) (unhide H2561 0 (by decide))).mono (fun e w' h => ⟨h.1, h.2.symm⟩))
        clear hbi efi
        go_wp2_with fail
        go_quiet ((go_at_call 24; exact Calls.quiet_of_same (unhide HE _)))
        have hbi2 := (unhide HBI).trans (Joins.below_draws _ _ nq)
        go_wp2
        go_roundw
        case rel => exact ⟨1, by omega, by go_num, hbi2⟩
        case measure => simp [intOf]
    | 1, _ =>
      have HBI := hide hbi
      by_cases hfi : f = 1
      · have hfi3 : ((1 : Int) != (f : Int)) = false := by simp; omega
        have HFI := hide hfi
        clear hbi hfi
        go_wp2_with fail
        go_quiet (fail)
        have hbi2 := (unhide HBI).trans (Joins.below_draws _ _ nq)
        go_wp2
        go_roundw
        case rel => exact ⟨2, by omega, by go_num, hbi2⟩
        case measure => simp [intOf]
      · have hfi2 : ¬ ((1 : Int) = (f : Int)) := by omega
        have hfi3 : ((1 : Int) != (f : Int)) = true := by simpa using hfi2
        have efi := unhide HFO 1 (fun e => hfi e.symm)
        have HE := hide (p := ∀ n, Calls Try.prog 24 #[.slice b1 (d1.F 1).length p1, .slice e1 (d5.F 1).length s1] (wr.drewN n) fun e w' => e = .returned (.bool true) ∧ w' = wr.drewN n) (fun n =>
          (equal_same _ _ (d1.F 1) _ ((unhide HY).1.2.1.call (hbi.trans (Joins.below_draws _ _ n))) (by have q := (unhide HY).2.2.1.call (hbi.trans (Joins.below_draws _ _ n)); rw [← efi]; exact q) (unhide H2561 1 (by decide))).mono (fun e w' h => ⟨h.1, h.2.symm⟩))
        clear hbi efi
        go_wp2_with fail
        go_quiet ((go_at_call 24; exact Calls.quiet_of_same (unhide HE _)))
        have hbi2 := (unhide HBI).trans (Joins.below_draws _ _ nq)
        go_wp2
        go_roundw
        case rel => exact ⟨2, by omega, by go_num, hbi2⟩
        case measure => simp [intOf]
    | 2, _ =>
      have HBI := hide hbi
      by_cases hfi : f = 2
      · have hfi3 : ((2 : Int) != (f : Int)) = false := by simp; omega
        have HFI := hide hfi
        clear hbi hfi
        go_wp2_with fail
        go_quiet (fail)
        have hbi2 := (unhide HBI).trans (Joins.below_draws _ _ nq)
        go_wp2
        go_roundw
        case rel => exact ⟨3, by omega, by go_num, hbi2⟩
        case measure => simp [intOf]
      · have hfi2 : ¬ ((2 : Int) = (f : Int)) := by omega
        have hfi3 : ((2 : Int) != (f : Int)) = true := by simpa using hfi2
        have efi := unhide HFO 2 (fun e => hfi e.symm)
        have HE := hide (p := ∀ n, Calls Try.prog 24 #[.slice b2 (d1.F 2).length p2, .slice e2 (d5.F 2).length s2] (wr.drewN n) fun e w' => e = .returned (.bool true) ∧ w' = wr.drewN n) (fun n =>
          (equal_same _ _ (d1.F 2) _ ((unhide HY).1.2.2.call (hbi.trans (Joins.below_draws _ _ n))) (by have q := (unhide HY).2.2.2.call (hbi.trans (Joins.below_draws _ _ n)); rw [← efi]; exact q) (unhide H2561 2 (by decide))).mono (fun e w' h => ⟨h.1, h.2.symm⟩))
        clear hbi efi
        go_wp2_with fail
        go_quiet ((go_at_call 24; exact Calls.quiet_of_same (unhide HE _)))
        have hbi2 := (unhide HBI).trans (Joins.below_draws _ _ nq)
        go_wp2
        go_roundw
        case rel => exact ⟨3, by omega, by go_num, hbi2⟩
        case measure => simp [intOf]
    | 3, _ =>
      have hB0r : Below w0.heap.size w0 wr := (unhide HB7).trans (hbi.mono (unhide HB7).size)
      have HBW : Hid (Byt wr (.slice ab nb cb) lb) := hide (by have q := (unhide HBB0).call hB0r; rw [unhide HNB] at q; exact q)
      obtain ⟨af, pf, ef, sf, ca, hwf, cb', hzf⟩ : ∃ af pf ef sf, wr.cell? ⟨w2.heap.size, f, none⟩ = some (.slice af (d1.F f).length pf) ∧ Byt wr (.slice af (d1.F f).length pf) (d1.F f) ∧ wr.cell? ⟨w6.heap.size, f, none⟩ = some (.slice ef (d5.F f).length sf) ∧ Byt wr (.slice ef (d5.F f).length sf) (d5.F f) := by
        rcases (show f = 0 ∨ f = 1 ∨ f = 2 by omega) with e | e | e
        · subst e; exact ⟨_, _, _, _, xa0, (unhide HY).1.1.call hbi, xb0, (unhide HY).2.1.call hbi⟩
        · subst e; exact ⟨_, _, _, _, xa1, (unhide HY).1.2.1.call hbi, xb1, (unhide HY).2.2.1.call hbi⟩
        · subst e; exact ⟨_, _, _, _, xa2, (unhide HY).1.2.2.call hbi, xb2, (unhide HY).2.2.2.call hbi⟩
      clear xa0 xa1 xa2 xb0 xb1 xb2
      have hnF : (d1.F f).length ≤ 16384 := by
        have := hu1
        unfold DS.used at this
        rcases (show f = 0 ∨ f = 1 ∨ f = 2 by omega) with e | e | e <;> subst e <;> omega
      have h5 : ∀ y ∈ d5.F f, y < 256 := by
        rw [unhide HFS]
        intro y hy
        rcases List.mem_append.1 hy with q | q
        · exact unhide H2561 f hf3 y q
        · exact unhide H256B y (List.mem_of_mem_take q)
      have H5 := hide h5
      have hl5 : (d5.F f).length = (d1.F f).length + min nb (1 + m) := by rw [unhide HFS, List.length_append, List.length_take, unhide HNB]; omega
      rw [hl5] at cb' hzf
      have HWF := hide hwf
      have HZF := hide hzf
      have HBR := hide hB0r
      obtain ⟨nF, hnF2⟩ : ∃ n, (d1.F f).length = n := ⟨_, rfl⟩
      rw [hnF2] at ca cb' HWF HZF hnF
      have HNF := hide hnF2
      have g0 : (0 : Int) ≤ (f : Int) := by omega
      have g3 : (f : Int) < 3 := by omega
      have her := unhide HER
      clear hwf hzf h5 hl5 hnF2 hbi hB0r
      by_cases hle : 1 + m ≤ nb
      · rw [if_pos hle] at her
        subst her
        have e1 : min nb (1 + m) = 1 + m := by omega
        rw [e1] at cb' HZF
        clear e1
        have hMi : 1 + (m : Int) = ((1 + m : Nat) : Int) := by omega
        rw [hMi]
        clear hMi hmm hnj hm3
        generalize 1 + m = M at *
        have t1 : (M : Int) ≤ (nb : Int) := by omega
        have t2 : (0 : Int) ≤ (M : Int) := by omega
        have t3 : (M : Int) ≤ (cb : Int) := by omega
        have t4 : ¬ ((nb : Int) < (M : Int)) := by omega
        have t5 : ¬ (nb < M) := by omega
        have t6 : M ≤ cb := by omega
        have t7 : min (M : Int) (nb : Int) = (M : Int) := by omega
        have KC := hide (p := ∀ W', W'.cell? ⟨wr.heap.size, 0, none⟩ = some (.slice af nF pf) → W'.cell? ⟨wr.heap.size, 1, none⟩ = some (.slice ab M cb) → Below wr.heap.size wr W' → Calls Try.prog 29 #[.slice (some ⟨wr.heap.size, 0, none⟩) 2 2] W' fun e w' => ∃ a' c', e = .returned (.slice a' (nF + M) c') ∧ Byt w' (.slice a' (nF + M) c') (d5.F f) ∧ Below W'.heap.size W' w') (fun W' q0 q1 hb => by
          refine (concat_two wr.heap.size nF M pf cb 2 af ab (d1.F f) (lb.take M) W' q0 q1 ((unhide HWF).call hb) (byt_take ((unhide HBW).call hb) (unhide HNB) (by omega)) (unhide HNF) (by rw [List.length_take, unhide HNB]; omega) (by omega) (by omega)).mono ?_
          rintro e w' ⟨a', c', rfl, ho, hb2⟩
          refine ⟨a', c', rfl, ?_, hb2⟩
          have e5 : d5.F f = d1.F f ++ lb.take M := by rw [unhide HFS]; congr 2; omega
          rw [e5]
          refine Byt.of_own (own_cast ho ?_ rfl)
          rw [List.length_append, List.length_take, unhide HNB, unhide HNF]; omega)
        have HE := hide (p := ∀ W' a' c', Byt W' (.slice a' (nF + M) c') (d5.F f) → Below wr.heap.size wr W' → Calls Try.prog 24 #[.slice ef (nF + M) sf, .slice a' (nF + M) c'] W' fun e w' => e = .returned (.bool true) ∧ W' = w') (fun W' a' c' hby hb => equal_same _ _ _ _ ((unhide HZF).call hb) hby (unhide H5))
        have hst : SB wr w2.heap.size w6.heap.size f (.slice af nF pf) (.slice ef (nF + M) sf) wr := ⟨⟨ca, cb'⟩, Below.refl _ _⟩
        clear ca cb'
        go_wp2_with fail
        go_region_held3 (fun w' => (w'.cell? ⟨w2.heap.size, f, none⟩ = some (.slice af nF pf) ∧ w'.cell? ⟨w6.heap.size, f, none⟩ = some (.slice ef (nF + M) sf)) ∧ Below wr.heap.size wr w')
          (first | exact SB.drew (by assumption) | exact SB.alloc (by assumption) _ | exact SB.call (by assumption) (by assumption) | assumption)
          (first
            | (go_at_call 29; refine (unhide KC _ (by simp [go_sem]) (by simp [go_sem]) (SB.bel (o1 := w2.heap.size) (o2 := w6.heap.size) (f := f) (v1 := .slice af nF pf) (v2 := .slice ef (nF + M) sf) (by assumption))).mono ?_; rintro e w9 ⟨a9, c9, rfl, hby9, hb9⟩)
            | (go_at_call 24; refine (unhide HE _ _ _ (by assumption) (SB.bel (o1 := w2.heap.size) (o2 := w6.heap.size) (f := f) (v1 := .slice af nF pf) (v2 := .slice ef (nF + M) sf) (by assumption))).mono ?_; rintro e wx ⟨rfl, rfl⟩)
            | (go_at_call 12; refine (awake_any _).mono ?_; rintro e w10 ⟨rfl, hb10⟩))
        all_goals go_wp2
        all_goals go_ret
        all_goals
          have hS : SB wr w2.heap.size w6.heap.size f (.slice af nF pf) (.slice ef (nF + M) sf) w10 := by assumption
          have hB := (unhide HBD).trans ((unhide HBR).mono hsz0)
          exact ⟨rfl, hB.trans (hS.2.mono hB.size)⟩
      · rw [if_neg hle] at her
        subst her
        have e1 : min nb (1 + m) = nb := by omega
        rw [e1] at cb' HZF
        have t1 : decide ((1 + (m : Int)) ≤ (nb : Int)) = false := by simp; omega
        have t3 : (nb : Int) ≤ (cb : Int) := by omega
        have t4 : ((nb : Int) < 1 + (m : Int)) := by omega
        clear e1
        have KC := hide (p := ∀ W', W'.cell? ⟨wr.heap.size, 0, none⟩ = some (.slice af nF pf) → W'.cell? ⟨wr.heap.size, 1, none⟩ = some (.slice ab nb cb) → Below wr.heap.size wr W' → Calls Try.prog 29 #[.slice (some ⟨wr.heap.size, 0, none⟩) 2 2] W' fun e w' => ∃ a' c', e = .returned (.slice a' (nF + nb) c') ∧ Byt w' (.slice a' (nF + nb) c') (d5.F f) ∧ Below W'.heap.size W' w') (fun W' q0 q1 hb => by
          refine (concat_two wr.heap.size nF nb pf cb 2 af ab (d1.F f) (lb.take nb) W' q0 q1 ((unhide HWF).call hb) (byt_take ((unhide HBW).call hb) (unhide HNB) (by omega)) (unhide HNF) (by rw [List.length_take, unhide HNB]; omega) (by omega) (by omega)).mono ?_
          rintro e w' ⟨a', c', rfl, ho, hb2⟩
          refine ⟨a', c', rfl, ?_, hb2⟩
          have e5 : d5.F f = d1.F f ++ lb.take nb := by rw [unhide HFS]; congr 2; omega
          rw [e5]
          refine Byt.of_own (own_cast ho ?_ rfl)
          rw [List.length_append, List.length_take, unhide HNB, unhide HNF]; omega)
        have HE := hide (p := ∀ W' a' c', Byt W' (.slice a' (nF + nb) c') (d5.F f) → Below wr.heap.size wr W' → Calls Try.prog 24 #[.slice ef (nF + nb) sf, .slice a' (nF + nb) c'] W' fun e w' => e = .returned (.bool true) ∧ W' = w') (fun W' a' c' hby hb => equal_same _ _ _ _ ((unhide HZF).call hb) hby (unhide H5))
        have hst : SB wr w2.heap.size w6.heap.size f (.slice af nF pf) (.slice ef (nF + nb) sf) wr := ⟨⟨ca, cb'⟩, Below.refl _ _⟩
        clear ca cb'
        go_wp2_with fail
        go_region_held3 (fun w' => (w'.cell? ⟨w2.heap.size, f, none⟩ = some (.slice af nF pf) ∧ w'.cell? ⟨w6.heap.size, f, none⟩ = some (.slice ef (nF + nb) sf)) ∧ Below wr.heap.size wr w')
          (first | exact SB.drew (by assumption) | exact SB.alloc (by assumption) _ | exact SB.call (by assumption) (by assumption) | assumption)
          (first
            | (go_at_call 29; refine (unhide KC _ (by simp [go_sem]) (by simp [go_sem]) (SB.bel (o1 := w2.heap.size) (o2 := w6.heap.size) (f := f) (v1 := .slice af nF pf) (v2 := .slice ef (nF + nb) sf) (by assumption))).mono ?_; rintro e w9 ⟨a9, c9, rfl, hby9, hb9⟩)
            | (go_at_call 24; refine (unhide HE _ _ _ (by assumption) (SB.bel (o1 := w2.heap.size) (o2 := w6.heap.size) (f := f) (v1 := .slice af nF pf) (v2 := .slice ef (nF + nb) sf) (by assumption))).mono ?_; rintro e wx ⟨rfl, rfl⟩)
            | (go_at_call 12; refine (awake_any _).mono ?_; rintro e w10 ⟨rfl, hb10⟩))
        all_goals go_wp2
        all_goals go_ret
        all_goals
          have hS : SB wr w2.heap.size w6.heap.size f (.slice af nF pf) (.slice ef (nF + nb) sf) w10 := by assumption
          have hB := (unhide HBD).trans ((unhide HBR).mono hsz0)
          exact ⟨rfl, hB.trans (hS.2.mono hB.size)⟩
set_option maxRecDepth 100000 in
theorem lifted (os : Os) (started : os.Started) (H : Type) (enc : TypeId × Value → H) :
    ReturnsInHanded {} Try.checked os 4 .any (Rows.diskBeginsSpec.pre6 enc Try.prog Try.f4 Rows.diskBeginsRow.domain false) (Rows.diskBeginsSpec.post enc Try.prog Try.f4 false true false false) := by
  refine returnsInHanded_of_change (C := Try.checked) own started (by kernel_rfl) Try.func4
    (ChangeSpec.witness6 (enc := enc) (C := Try.checked) false ⟨#[], #[.slice none 0 0, .int .i64 0, .int .i64 0, .slice none 0 0], []⟩ 8 (by kernel_rfl) (by kernel_rfl) (by kernel_rfl) (by kernel_rfl)) ?_
  intro W base args ds gs before hval0 hW hcnd _
  have hval : ∀ (j : Nat) t v, Try.f4.params[j]? = some t → args[j]? = some v → Value.okWide Try.prog W .any base t v := hval0
  have hW' := hW
  obtain ⟨p, q, hA0, hV, rfl, hfz, hnd⟩ := hW
  have hA : DataW.TrodAll enc Try.prog W 0 (fun _ => true) true Try.f4.params.toList args.toList ds p := hA0
  rw [Try.params4] at hA hval
  obtain ⟨v0, vs0, d0, ds0, p0, q0, hargs, rfl, rfl, h0, r0⟩ := trodAll_cons hA
  obtain ⟨v1, vs1, d1, ds1, p1, q1, rfl, rfl, rfl, h1, r1⟩ := trodAll_cons r0
  obtain ⟨v2, vs2, d2, ds2, p2, q2, rfl, rfl, rfl, h2, r2⟩ := trodAll_cons r1
  obtain ⟨v3, vs3, d3, ds3, p3, q3, rfl, rfl, rfl, h3, r3⟩ := trodAll_cons r2
  obtain ⟨rfl, rfl, rfl⟩ := trodAll_nil r3
  obtain rfl : args = #[v0, v1, v2, v3] := by cases args; simp_all
  obtain ⟨rfl, rfl⟩ := trodVars_none hV
  have lt0 : ∀ x ∈ p0, x.block < W.heap.size := by obtain ⟨m, hm⟩ := h0; exact DataW.trod_lt m _ _ _ hm
  have lt1 : ∀ x ∈ p1, x.block < W.heap.size := by obtain ⟨m, hm⟩ := h1; exact DataW.trod_lt m _ _ _ hm
  have lt2 : ∀ x ∈ p2, x.block < W.heap.size := by obtain ⟨m, hm⟩ := h2; exact DataW.trod_lt m _ _ _ hm
  have lt3 : ∀ x ∈ p3, x.block < W.heap.size := by obtain ⟨m, hm⟩ := h3; exact DataW.trod_lt m _ _ _ hm
  obtain ⟨a, L, cap, rfl, hc, hm, hL⟩ := open_dos (hval 0 22 v0 rfl rfl) h0
  obtain ⟨file, rfl, -, -⟩ := open_i64 (hval 1 3 v1 rfl rfl) h1
  obtain ⟨n0, rfl, -, -⟩ := open_i64 (hval 2 3 v2 rfl rfl) h2
  obtain ⟨lb, hbb, h256b⟩ := open_bytes (hval 3 32 v3 rfl rfl) h3
  obtain ⟨ab, cb, rfl⟩ := byt_shape hbb
  clear hA0 hval0
  refine (walk a L cap file n0 ab cb lb W hL hc hm hbb h256b).mono fun e W' ⟨he, bel⟩ => ?_
  subst he
  exact ⟨_, rfl, _, _, _, [], _, [], hW', trodAll_mk1 (shut_bool Try.underlying4 _), (trodAll_cons_mk (Below.trod laidOut (by kernel_rfl) (of_decide_eq_true (by kernel_rfl)) h0 bel lt0) (trodAll_cons_mk (Below.trod laidOut (by kernel_rfl) (of_decide_eq_true (by kernel_rfl)) h1 bel lt1) (trodAll_cons_mk (Below.trod laidOut (by kernel_rfl) (of_decide_eq_true (by kernel_rfl)) h2 bel lt2) (trodAll_cons_mk (Below.trod laidOut (by kernel_rfl) (of_decide_eq_true (by kernel_rfl)) h3 bel lt3) trodAll_mk0)))), rfl, bel.frame _, fun h => by cases h⟩

theorem proved : Rows.DiskBeginsSaid :=
  OpenClaim.holds_of_wide 4 Try.f4 rfl rfl rfl rfl rfl rfl rfl ⟨rfl, rfl, rfl, rfl, rfl⟩ rfl rfl rfl rfl rfl (by kernel_rfl) Try.func4 (by kernel_rfl)
    (of_decide_eq_true (by kernel_rfl)) (by unfold Func.isWrapper; first | (rw [if_pos (by decide +kernel)]; kernel_rfl) | (rw [if_neg (by decide +kernel)]; exact ⟨rfl, rfl⟩))
    (fun os started H enc _ => lifted os started H enc)
#print axioms proved
end Go.Proofs.Ytadjgljimikodaa.begins
