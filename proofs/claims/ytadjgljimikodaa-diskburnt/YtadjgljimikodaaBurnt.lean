/- For any calls, any pieces and any number the Go function sealskinlaw05.DiskBurnt returns true, and its arguments read as they did. No condition. -/
import Derived.Test.YtadjgljimikodaaKept
namespace Go.Proofs.Ytadjgljimikodaa.burnt
set_option linter.unusedVariables false
set_option linter.unusedSimpArgs false
open Go.ChangeShapes Go.WideShapes Go.ChangeAt Go.RowKit Go.Joins

def csP (P : List (Value × List Nat)) (k : Nat) : Nat := ((P.take k).map fun p => 1 + min p.2.length 16384).sum
def toP (P : List (Value × List Nat)) (k : Nat) : Nat := ((P.take k).map fun p => p.2.length).sum
theorem csP_next {P : List (Value × List Nat)} {k : Nat} {c : Value × List Nat} (h : P[k]? = some c) : csP P (k + 1) = csP P k + (1 + min c.2.length 16384) := by
  have hk := (List.getElem?_eq_some_iff.1 h).1
  have e := (List.getElem?_eq_some_iff.1 h).2
  rw [csP, List.take_succ_eq_append_getElem hk, List.map_append, List.sum_append, e]
  simp [csP]
theorem toP_next {P : List (Value × List Nat)} {k : Nat} {c : Value × List Nat} (h : P[k]? = some c) : toP P (k + 1) = toP P k + c.2.length := by
  have hk := (List.getElem?_eq_some_iff.1 h).1
  have e := (List.getElem?_eq_some_iff.1 h).2
  rw [toP, List.take_succ_eq_append_getElem hk, List.map_append, List.sum_append, e]
  simp [toP]
theorem of_cs : ∀ (P : List (Value × List Nat)), (P.map fun p => 1 + min p.2.length 16384).sum ≤ 16384 → (P.map fun p => p.2.length).sum ≤ 16384 ∧ (P.map fun p => p.2.length).sum + P.length = (P.map fun p => 1 + min p.2.length 16384).sum := by
  intro P
  induction P with
  | nil => intro _; simp
  | cons c P ih =>
    intro h
    simp only [List.map_cons, List.sum_cons] at h
    have := ih (by omega)
    simp only [List.map_cons, List.sum_cons, List.length_cons] at this ⊢
    omega
theorem toP_le (P : List (Value × List Nat)) (k : Nat) : toP P k ≤ (P.map fun p => p.2.length).sum := by
  have e : P.map (fun p => p.2.length) = (P.take k).map (fun p => p.2.length) ++ (P.drop k).map (fun p => p.2.length) := by rw [← List.map_append, List.take_append_drop]
  rw [e, List.sum_append]
  exact Nat.le_add_right _ _

structure BI (d : DS) (n all u0 l0 : Nat) : Prop where
  room : d.room = 4194304
  on : d.on = decide (all < n)
  fuse : all < n → d.fuse = n - all
  len : (d.F 1).length = l0 + min all n
  used : d.used = u0 + min all n
theorem BI.next {d : DS} {n all u0 l0 : Nat} (h : BI d n all u0 l0) (l : List Nat) (hu : u0 ≤ 16384) (ha : all + l.length ≤ 16384) (hn : n ≤ 200) (h1 : 1 ≤ n) :
    BI (d.appD 1 l) n (all + l.length) u0 l0 ∧ d.appE 1 l.length = if n ≤ all + l.length then 50 else 0 := by
  have hf : inF 1 := by decide
  have hr := h.room
  have hus := h.used
  have hnf : ¬ d.room < d.used + l.length := by omega
  by_cases g : all < n
  · have hon : d.on = true := by rw [h.on]; simpa using g
    have hfu := h.fuse g
    have h0 : ¬ d.fuse = 0 := by omega
    have hD : d.appD 1 l = d.put 1 l := by simp only [DS.appD, hon, hf, hnf, if_true, if_false]; rfl
    have hE : d.appE 1 l.length = d.burnE l.length := by simp only [DS.appE, hon, hf, hnf, if_true, if_false]
    have hN : d.burnN l.length = min l.length (n - all) := by unfold DS.burnN; rw [if_neg h0, hfu]
    rw [hD, hE]
    refine ⟨⟨(d.put_room 1 l).trans hr, ?_, fun q => ?_, ?_, ?_⟩, ?_⟩
    · simp only [DS.put, DS.burnD, h0, if_false]
      by_cases q : d.fuse ≤ l.length
      · simp only [q, if_true]; symm; simp; omega
      · simp only [q, if_false, hon]; symm; simp; omega
    · simp only [DS.put, DS.burnD, h0, if_false]
      have q : ¬ d.fuse ≤ l.length := by omega
      simp only [q, if_false]; omega
    · rw [d.put_len, h.len, hN]; omega
    · rw [d.put_used 1 (by decide), hus, hN]; omega
    · simp only [DS.burnE, h0, if_false]
      by_cases q : d.fuse ≤ l.length
      · rw [if_pos q, if_pos (by omega)]
      · rw [if_neg q, if_neg (by omega)]
  · have hon : d.on = false := by rw [h.on]; simpa using g
    have hD : d.appD 1 l = d := by simp [DS.appD, hon]
    have hE : d.appE 1 l.length = 50 := by simp [DS.appE, hon]
    rw [hD, hE, if_pos (by omega)]
    refine ⟨⟨hr, ?_, fun q => by omega, ?_, ?_⟩, rfl⟩
    · rw [hon]; symm; simp; omega
    · rw [h.len]; omega
    · rw [hus]; omega

set_option maxHeartbeats 4000000 in
theorem walk (a : Option Addr) (L : List Cl) (cap : Nat) (ap : Option Addr) (P : List (Value × List Nat)) (capp : Nat) (n0 : Int) (w : World) (hL : Dos w a L) (hc : L.length ≤ cap) (hm : cap ≤ maxLen) (hP : Lst w ap P) (hcp : P.length ≤ capp) (hmp : capp ≤ maxLen) :
    Calls Try.prog 6 #[.slice a L.length cap, .slice ap P.length capp, .int .i64 n0] w fun e w' => e = .returned (.bool true) ∧ Below w.heap.size w w' := by
  have KS := hide (short_any a L cap w hL hc hm)
  have KM := hide (lmade_any 4194304 a L cap w hL hc hm (by decide) (by decide))
  obtain ⟨j, hj, hj2⟩ := mod_nat n0 200 (by decide) (by decide)
  rw [show ((200 : Nat) : Int) = 200 from rfl] at hj
  unfold maxLen at hmp hm
  have HP := hide hP
  obtain ⟨np, hn⟩ : ∃ n, P.length = n := ⟨_, rfl⟩
  rw [hn] at hcp
  rw [hn]
  have HN := hide hn
  generalize L.length = nl at *
  clear hP hn hL
  go_enter Try.func6, Try.ntmps6
  go_wp2_with fail
  go_loop [7, 8] (fun s i => ∃ k : Nat, k ≤ np ∧ i = .int .i64 k ∧ s = .int .i64 (csP P k : Int) ∧ csP P k ≤ 32769) (fun _ i => np - (intOf i).toNat)
  case atStart => exact ⟨0, by omega, rfl, by simp [csP], by simp [csP]⟩
  case round =>
    obtain ⟨k, hk, rfl, rfl, hle⟩ := hrel
    by_cases g1 : k < np
    · have i1 : (k : Int) < (np : Int) := by omega
      by_cases g3 : csP P k ≤ 16384
      · have i3 : (csP P k : Int) ≤ 16384 := by omega
        obtain ⟨c, hc1⟩ : ∃ c, P[k]? = some c := ⟨_, List.getElem?_eq_getElem (by rw [unhide HN]; exact g1)⟩
        rcases (unhide HP).2 with h0 | ⟨b, off, rfl, hlt, hx⟩
        · rw [h0] at hc1; simp at hc1
        have q3 := hx k c hc1
        obtain ⟨a1, cap1, hv⟩ := byt_shape ((unhide HP).1 c (List.mem_of_getElem? hc1)).1
        rw [hv] at q3
        have HNX := hide (csP_next hc1)
        clear hx hv hc1
        generalize hcl : c.2.length = cl at *
        generalize hcs : csP P k = cs at *
        have i0 : (0 : Int) ≤ (k : Int) := by omega
        go_wp2
        go_round
        case rel =>
          refine ⟨k + 1, by omega, by go_num, ?_, by rw [unhide HNX]; omega⟩
          rw [unhide HNX]
          congr 1
          split <;> omega
        case measure => simp [intOf]; omega
      · have i3 : decide ((csP P k : Int) ≤ 16384) = false := by simp; omega
        have i4 : (16384 : Int) < (csP P k : Int) := by omega
        generalize hcs : csP P k = cs at *
        go_wp2_with fail
        refine (unhide KS).mono ?_
        rintro e w1 ⟨⟨r, rfl, hr⟩, rfl⟩
        clear hr
        cases r
        · go_wp2_with (go_at_call 12; refine (awake_any _).mono ?_; rintro e w' ⟨rfl, hb⟩)
          go_ret
          exact ⟨rfl, hb⟩
        · go_wp2_with (go_at_call 12; refine (awake_any _).mono ?_; rintro e w' ⟨rfl, hb⟩)
          go_ret
          exact ⟨rfl, hb⟩
    · obtain rfl : k = np := by omega
      by_cases g3 : csP P k ≤ 16384
      · have i4 : decide ((16384 : Int) < (csP P k : Int)) = false := by simp; omega
        have htot := of_cs P (by have := g3; rw [csP, ← unhide HN, List.take_length] at this; exact this)
        have hto : ∀ i, toP P i ≤ 16384 := fun i => Nat.le_trans (toP_le P i) htot.1
        have HTO := hide hto
        have hk16 : k ≤ 16384 := by
          have e : csP P k = (P.map fun p => 1 + min p.2.length 16384).sum := by rw [csP, ← unhide HN, List.take_length]
          rw [← unhide HN]; omega
        clear htot hto
        generalize hcs : csP P k = cs at *
        go_wp2_with fail
        refine (unhide KS).mono ?_
        rintro e w1 ⟨⟨r, rfl, hr⟩, rfl⟩
        cases r
        · go_wp2_with (go_at_call 12; refine (awake_any _).mono ?_; rintro e w' ⟨rfl, hb⟩)
          go_ret
          exact ⟨rfl, hb⟩
        · have HR := hide (hr rfl)
          clear hr
          go_wp2_with fail
          refine (unhide KM).mono ?_
          rintro e w1 ⟨rfl, hat1, hb1⟩
          have hu1 : ((DS.start (Int.toNat 4194304)).run L).used ≤ 16384 := by
            have q := DS.run_used L (DS.start (Int.toNat 4194304))
            have q2 : (DS.start (Int.toNat 4194304)).used = 0 := by simp [DS.start, DS.used]
            have := (unhide HR).2
            omega
          have hro1 : ((DS.start (Int.toNat 4194304)).run L).room = 4194304 := DS.run_room L _
          generalize (DS.start (Int.toNat 4194304)).run L = d1 at *
          have KF := hide (files_x _ _ d1 w1 (AtX.of_at hat1) (fun k hk => Nat.lt_of_lt_of_le hk hb1.size))
          have HB1 := hide hb1
          clear hat1 hb1
          go_wp2_with fail
          refine (unhide KF).mono ?_
          clear KF
          rintro e w2 ⟨v0, v1, v2, rfl, hat2, hk2, m0, m1, m2⟩
          obtain ⟨b0, p0, rfl⟩ := m0.shape
          obtain ⟨b1, p1, rfl⟩ := m1.shape
          obtain ⟨b2, p2, rfl⟩ := m2.shape
          have hout := Out.fresh w2 (.slice b0 (d1.F 0).length p0) (.slice b1 (d1.F 1).length p1) (.slice b2 (d1.F 2).length p2)
          have hal : Below w2.heap.size w2 (w2.alloc (.cells #[.slice b0 (d1.F 0).length p0, .slice b1 (d1.F 1).length p1, .slice b2 (d1.F 2).length p2] 40)) := (Below.refl _ _).alloc (Nat.le_refl _) _
          have hat3 := (hat2 (w2.heap.size + 1)).call hal
          have hs3 : (w2.alloc (.cells #[.slice b0 (d1.F 0).length p0, .slice b1 (d1.F 1).length p1, .slice b2 (d1.F 2).length p2] 40)).heap.size = w2.heap.size + 1 := by simp
          have hz2 : w1.heap.size ≤ w2.heap.size := hk2.size
          have hB2 : Below w.heap.size w w2 := (unhide HB1).trans (hk2.below (fun k hk => hk))
          have hBs := hB2.size
          have hX3 : ∀ k, (k < w.heap.size ∨ (w1.heap.size ≤ k ∧ k < w2.heap.size + 1)) → k < (w2.alloc (.cells #[.slice b0 (d1.F 0).length p0, .slice b1 (d1.F 1).length p1, .slice b2 (d1.F 2).length p2] 40)).heap.size := by
            intro k hk
            rw [hs3]
            omega
          have hB3 := hB2.trans (hal.mono hBs)
          have KD := hide (disarm_x _ _ _ _ hat3 hX3)
          have HOUT := hide hout
          have HX3 := hide hX3
          have HB3 := hide hB3
          have hl1 : (d1.F 1).length ≤ 16384 := by unfold DS.used at hu1; omega
          clear hat2 hk2 m0 m1 m2 hout hal hat3 hs3 hB2 hX3 hB3
          go_wp2_with fail
          generalize hw3 : w2.alloc (.cells #[.slice b0 (d1.F 0).length p0, .slice b1 (d1.F 1).length p1, .slice b2 (d1.F 2).length p2] 40) = w3 at *
          clear hw3
          refine (unhide KD).mono ?_
          clear KD
          rintro e w4 ⟨rfl, hat4, hk4⟩
          have hX4 : ∀ k, (k < w.heap.size ∨ (w1.heap.size ≤ k ∧ k < w2.heap.size + 1)) → k < w4.heap.size := fun k hk => Nat.lt_of_lt_of_le (unhide HX3 k hk) hk4.size
          have KA := hide (arm_x _ _ _ (1 + (j : Int)) _ hat4 hX4 (by omega))
          rw [show ({ d1 with on := true } : DS).disarmD.armE (1 + (j : Int)) = 0 by simp [DS.disarmD, DS.armE]; omega] at KA
          have hbi0 : BI (({ d1 with on := true } : DS).disarmD.armD (1 + (j : Int))) (1 + j) 0 d1.used (d1.F 1).length := by
            have hnj : ¬ (1 + (j : Int) < 1) := by omega
            simp only [DS.disarmD, DS.armD, if_true, hnj, if_false]
            refine ⟨hro1, ?_, fun _ => ?_, ?_, ?_⟩
            · symm; simp; omega
            · simp only; omega
            · simp
            · simp [DS.used]
          have HBI := hide hbi0
          have HX4 := hide hX4
          have HK4 := hide hk4
          have hsj : (1 + (j : Int)) ≤ 200 := by omega
          clear hat4 hk4 hX4 hbi0
          go_wp2_with fail
          refine (unhide KA).mono ?_
          clear KA
          rintro e w5 ⟨rfl, hat5, hk5⟩
          have HK5 := hide ((unhide HK4).trans hk5)
          have HX5 := hide (p := ∀ k, (k < w.heap.size ∨ (w1.heap.size ≤ k ∧ k < w2.heap.size + 1)) → k < w5.heap.size) (fun k hk => Nat.lt_of_lt_of_le (unhide HX4 k hk) hk5.size)
          have HAT5 := hide hat5
          generalize ({ d1 with on := true } : DS).disarmD.armD (1 + (j : Int)) = d5 at *
          clear hat5 hk5
          go_wp2_with fail
          go_loopw [11, 12, 61] (fun al dn i wr => ∃ q : Nat, q ≤ k ∧ i = .int .i64 q ∧ al = .int .i64 (toP P q : Int) ∧ dn = .bool (decide (1 + j ≤ toP P q)) ∧ ∃ d, AtX (fun x => x < w.heap.size ∨ (w1.heap.size ≤ x ∧ x < w2.heap.size + 1)) wr w.heap.size d ∧ BI d (1 + j) (toP P q) d1.used (d1.F 1).length ∧ Kept (fun x => x < w.heap.size ∨ (w1.heap.size ≤ x ∧ x < w2.heap.size + 1)) w3 wr) (fun _ _ i _ => k - (intOf i).toNat)
          case atStart => exact ⟨0, by omega, rfl, by simp [toP], by simp [toP], d5, unhide HAT5, by simpa [toP] using unhide HBI, unhide HK5⟩
          case round =>
            obtain ⟨q, hq, rfl, rfl, rfl, d, hatd, hbi, hkp⟩ := hrel
            have hXr : ∀ x, (x < w.heap.size ∨ (w1.heap.size ≤ x ∧ x < w2.heap.size + 1)) → x < wr.heap.size := fun x hx => Nat.lt_of_lt_of_le (unhide HX3 x hx) hkp.size
            have hbr : Below w.heap.size w wr := (unhide HB3).trans (hkp.below (fun x hx => .inl hx))
            by_cases g1 : q < k
            · have i1 : (q : Int) < (k : Int) := by omega
              have i0 : (0 : Int) ≤ (q : Int) := by omega
              obtain ⟨c, hc1⟩ : ∃ c, P[q]? = some c := ⟨_, List.getElem?_eq_getElem (by rw [unhide HN]; exact g1)⟩
              rcases ((unhide HP).call hbr).2 with h0 | ⟨b, off, rfl, hlt, hx⟩
              · rw [h0] at hc1; simp at hc1
              have q3 := hx q c hc1
              have hby0 := ((unhide HP).1 c (List.mem_of_getElem? hc1)).1
              have hby := hby0.call hbr
              have hnx := toP_next hc1
              have h16 : toP P q + c.2.length ≤ 16384 := by rw [← hnx]; exact unhide HTO _
              obtain ⟨hbn, hen⟩ := hbi.next c.2 hu1 h16 (by omega) (by omega)
              have KP := append_x _ _ d 1 c.1 c.2 wr hatd hXr hby (fun hl => byt_far hby0 (Nat.le_refl _) hl)
              rw [hen] at KP
              obtain ⟨a1, cap1, hv⟩ := byt_shape hby
              rw [hv] at q3 KP
              have KP := hide KP
              have HBN := hide hbn
              have HNX := hide hnx
              have HKP := hide hkp
              clear hx hc1 hby hby0 hnx hbn hen hv hbi hatd hkp hXr hbr
              generalize c.2.length = cl at *
              generalize htq : toP P q = t at *
              go_wp2_with fail
              refine (unhide KP).mono ?_
              clear KP
              rintro e w6 ⟨rfl, hat6, hk6⟩
              have HK6 := hide ((unhide HKP).trans hk6)
              have HAT6 := hide hat6
              clear hat6 hk6 HKP
              by_cases c1 : 1 + j ≤ t
              · have c2 : 1 + j ≤ t + cl := by omega
                have e1 : decide (1 + j ≤ t) = true := by simpa using c1
                rw [if_pos c2, e1]
                go_wp2
                go_roundw
                case rel =>
                  refine ⟨q + 1, by omega, by go_num, by rw [unhide HNX]; go_num, ?_, _, unhide HAT6, ?_, unhide HK6⟩
                  · rw [unhide HNX]; simp; omega
                  · rw [unhide HNX]; exact unhide HBN
                case measure => simp [intOf]; omega
              · have e1 : decide (1 + j ≤ t) = false := by simpa using c1
                rw [e1]
                by_cases c2 : 1 + j ≤ t + cl
                · rw [if_pos c2]
                  go_wp2
                  go_roundw
                  case rel =>
                    refine ⟨q + 1, by omega, by go_num, by rw [unhide HNX]; go_num, ?_, _, unhide HAT6, ?_, unhide HK6⟩
                    · rw [unhide HNX]; simp; omega
                    · rw [unhide HNX]; exact unhide HBN
                  case measure => simp [intOf]; omega
                · rw [if_neg c2]
                  go_wp2
                  go_roundw
                  case rel =>
                    refine ⟨q + 1, by omega, by go_num, by rw [unhide HNX]; go_num, ?_, _, unhide HAT6, ?_, unhide HK6⟩
                    · rw [unhide HNX]; simp; omega
                    · rw [unhide HNX]; exact unhide HBN
                  case measure => simp [intOf]; omega
            · have hqk : q = k := by omega
              subst hqk
              have h16 := unhide HTO q
              have hlen := hbi.len
              have KF := hide (files_x _ _ d wr hatd hXr)
              have HKP := hide hkp
              have HBR := hide hbr
              clear hatd hXr hkp hbr hbi
              generalize htq : toP P q = t at *
              go_wp2_with fail
              refine (unhide KF).mono ?_
              clear KF
              rintro e w6 ⟨v0, v1, v2, rfl, hat6, hk6, m0, m1, m2⟩
              obtain ⟨f0, q0, rfl⟩ := m0.shape
              obtain ⟨f1, q1, rfl⟩ := m1.shape
              obtain ⟨f2, q2, rfl⟩ := m2.shape
              have hwas := ((unhide HKP).trans hk6).out (unhide HOUT) (.inr ⟨by omega, by omega⟩)
              have hal : Below w6.heap.size w6 (w6.alloc (.cells #[.slice f0 (d.F 0).length q0, .slice f1 (d.F 1).length q1, .slice f2 (d.F 2).length q2] 40)) := (Below.refl _ _).alloc (Nat.le_refl _) _
              have hwl : w2.heap.size < w6.heap.size := lt_of_cell hwas.1.1
              obtain ⟨⟨-, x1, -⟩, -, -, -⟩ := id hwas
              obtain ⟨⟨-, y1, -⟩, -, -, -⟩ := Out.fresh w6 (.slice f0 (d.F 0).length q0) (.slice f1 (d.F 1).length q1) (.slice f2 (d.F 2).length q2)
              have hB6 : Below w.heap.size w w6 := (unhide HBR).trans (hk6.below (fun x hx => .inl hx))
              have HB7 := hide (hB6.trans (hal.mono hB6.size))
              have hmin : (if 1 + (j : Int) < (t : Int) then 1 + (j : Int) else (t : Int)) = ((min t (1 + j) : Nat) : Int) := by split <;> omega
              rw [hlen] at y1 HB7 ⊢
              clear hat6 hk6 m0 m1 m2 hwas hal hB6
              generalize (d1.F 1).length = l0 at *
              generalize (d.F 0).length = l1 at *
              generalize (d.F 2).length = l2 at *
              by_cases c1 : 1 + j ≤ t
              · have e1 : decide (1 + j ≤ t) = true := by simpa using c1
                have e2 : (1 + (j : Int)) ≤ (t : Int) := by omega
                have e3 : min t (1 + j) = 1 + j := by omega
                rw [e3] at y1 HB7 ⊢
                rw [e1]
                go_wp2_with (go_at_call 12; refine (awake_any _).mono ?_; rintro e w' ⟨rfl, hb⟩)
                go_ret
                exact ⟨rfl, (unhide HB7).trans (hb.mono (unhide HB7).size)⟩
              · have e1 : decide (1 + j ≤ t) = false := by simpa using c1
                have e2 : decide ((1 + (j : Int)) ≤ (t : Int)) = false := by simp; omega
                have e3 : min t (1 + j) = t := by omega
                rw [e3] at y1 HB7 ⊢
                rw [e1]
                go_wp2_with (go_at_call 12; refine (awake_any _).mono ?_; rintro e w' ⟨rfl, hb⟩)
                go_ret
                exact ⟨rfl, (unhide HB7).trans (hb.mono (unhide HB7).size)⟩
      · have i4 : (16384 : Int) < (csP P k : Int) := by omega
        generalize hcs : csP P k = cs at *
        go_wp2_with fail
        refine (unhide KS).mono ?_
        rintro e w1 ⟨⟨r, rfl, hr⟩, rfl⟩
        clear hr
        cases r
        · go_wp2_with (go_at_call 12; refine (awake_any _).mono ?_; rintro e w' ⟨rfl, hb⟩)
          go_ret
          exact ⟨rfl, hb⟩
        · go_wp2_with (go_at_call 12; refine (awake_any _).mono ?_; rintro e w' ⟨rfl, hb⟩)
          go_ret
          exact ⟨rfl, hb⟩
set_option maxRecDepth 100000 in
theorem lifted (os : Os) (started : os.Started) (H : Type) (enc : TypeId × Value → H) :
    ReturnsInHanded {} Try.checked os 6 .any (Rows.diskBurntSpec.pre6 enc Try.prog Try.f6 Rows.diskBurntRow.domain false) (Rows.diskBurntSpec.post enc Try.prog Try.f6 false true false false) := by
  refine returnsInHanded_of_change (C := Try.checked) own started (by kernel_rfl) Try.func6
    (ChangeSpec.witness6 (enc := enc) (C := Try.checked) false ⟨#[], #[.slice none 0 0, .slice none 0 0, .int .i64 0], []⟩ 8 (by kernel_rfl) (by kernel_rfl) (by kernel_rfl) (by kernel_rfl)) ?_
  intro W base args ds gs before hval0 hW hcnd _
  have hval : ∀ (j : Nat) t v, Try.f6.params[j]? = some t → args[j]? = some v → Value.okWide Try.prog W .any base t v := hval0
  have hW' := hW
  obtain ⟨p, q, hA0, hV, rfl, hfz, hnd⟩ := hW
  have hA : DataW.TrodAll enc Try.prog W 0 (fun _ => true) true Try.f6.params.toList args.toList ds p := hA0
  rw [Try.params6] at hA hval
  obtain ⟨v0, vs0, d0, ds0, p0, q0, hargs, rfl, rfl, h0, r0⟩ := trodAll_cons hA
  obtain ⟨v1, vs1, d1, ds1, p1, q1, rfl, rfl, rfl, h1, r1⟩ := trodAll_cons r0
  obtain ⟨v2, vs2, d2, ds2, p2, q2, rfl, rfl, rfl, h2, r2⟩ := trodAll_cons r1
  obtain ⟨rfl, rfl, rfl⟩ := trodAll_nil r2
  obtain rfl : args = #[v0, v1, v2] := by cases args; simp_all
  obtain ⟨rfl, rfl⟩ := trodVars_none hV
  have lt0 : ∀ x ∈ p0, x.block < W.heap.size := by obtain ⟨m, hm⟩ := h0; exact DataW.trod_lt m _ _ _ hm
  have lt1 : ∀ x ∈ p1, x.block < W.heap.size := by obtain ⟨m, hm⟩ := h1; exact DataW.trod_lt m _ _ _ hm
  have lt2 : ∀ x ∈ p2, x.block < W.heap.size := by obtain ⟨m, hm⟩ := h2; exact DataW.trod_lt m _ _ _ hm
  obtain ⟨a, L, cap, rfl, hc, hm, hL⟩ := open_dos (hval 0 22 v0 rfl rfl) h0
  obtain ⟨ap, P, capp, rfl, hcp, hmp, hP⟩ := open_lists (hval 1 54 v1 rfl rfl) h1
  obtain ⟨n0, rfl, -, -⟩ := open_i64 (hval 2 3 v2 rfl rfl) h2
  clear hA0 hval0
  refine (walk a L cap ap P capp n0 W hL hc hm hP hcp hmp).mono fun e W' ⟨he, bel⟩ => ?_
  subst he
  exact ⟨_, rfl, _, _, _, [], _, [], hW', trodAll_mk1 (shut_bool Try.underlying4 _), (trodAll_cons_mk (Below.trod laidOut (by kernel_rfl) (of_decide_eq_true (by kernel_rfl)) h0 bel lt0) (trodAll_cons_mk (Below.trod laidOut (by kernel_rfl) (of_decide_eq_true (by kernel_rfl)) h1 bel lt1) (trodAll_cons_mk (Below.trod laidOut (by kernel_rfl) (of_decide_eq_true (by kernel_rfl)) h2 bel lt2) trodAll_mk0))), rfl, bel.frame _, fun h => by cases h⟩

theorem proved : Rows.DiskBurntSaid :=
  OpenClaim.holds_of_wide 6 Try.f6 rfl rfl rfl rfl rfl rfl rfl ⟨rfl, rfl, rfl, rfl, rfl⟩ rfl rfl rfl rfl rfl (by kernel_rfl) Try.func6 (by kernel_rfl)
    (of_decide_eq_true (by kernel_rfl)) (by unfold Func.isWrapper; first | (rw [if_pos (by decide +kernel)]; kernel_rfl) | (rw [if_neg (by decide +kernel)]; exact ⟨rfl, rfl⟩))
    (fun os started H enc _ => lifted os started H enc)
#print axioms proved
end Go.Proofs.Ytadjgljimikodaa.burnt
