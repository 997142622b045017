/- For any room and any calls the Go function sealskinlaw05.DiskRoom returns true, and its arguments read as they did. No condition. -/
import Derived.Test.YtadjgljimikodaaFam
namespace Go.Proofs.Ytadjgljimikodaa.room
set_option linter.unusedVariables false
set_option linter.unusedSimpArgs false
open Go.ChangeShapes Go.WideShapes Go.ChangeAt Go.RowKit Go.Joins

theorem full_same (d : DS) (c : Cl) (h : d.doE c.op c.file c.n c.b = 7) : d.step c = d := by
  unfold DS.doE at h
  unfold DS.step DS.doD
  have hb : ∀ n, d.burnE n ≠ 7 := by intro n; unfold DS.burnE; split; decide; split <;> decide
  have hc : d.check ≠ 7 := by unfold DS.check; split <;> decide
  split at h
  · exfalso; unfold DS.wipeE at h; split at h
    · split at h
      · exact hb _ h
      · cases h
    · cases h
  rename_i h4
  rw [if_neg h4]
  split at h
  · exact absurd h hc
  rename_i h5
  rw [if_neg h5]
  split at h
  · cases h
  rename_i h6
  rw [if_neg h6]
  split at h
  · exfalso; unfold DS.armE at h; split at h
    · split at h <;> cases h
    · cases h
  rename_i h7
  rw [if_neg h7]
  split at h
  · exact absurd h hc
  rename_i h8
  rw [if_neg h8]
  unfold DS.appE at h
  unfold DS.appD
  split at h
  · rename_i hon
    rw [if_pos hon]
    split at h
    · rename_i hf
      rw [if_pos hf]
      split at h
      · rename_i hful
        rw [if_pos hful]
      · exact absurd h (hb _)
    · cases h
  · cases h

set_option maxHeartbeats 4000000 in
theorem walk (room : Int) (a : Option Addr) (L : List Cl) (cap : Nat) (w : World) (hL : Dos w a L) (hc : L.length ≤ cap) (hm : cap ≤ maxLen) :
    Calls Try.prog 5 #[.int .i64 room, .slice a L.length cap] w fun e w' => e = .returned (.bool true) ∧ Below w.heap.size w w' := by
  have KS := hide (short_any a L cap w hL hc hm)
  obtain ⟨j, hj, hj2⟩ := mod_nat room 3000 (by decide) (by decide)
  rw [show ((3000 : Nat) : Int) = 3000 from rfl] at hj
  unfold maxLen at hm
  have HL := hide hL
  obtain ⟨nl, hn⟩ : ∃ n, L.length = n := ⟨_, rfl⟩
  rw [hn] at hc KS
  rw [hn]
  have HN := hide hn
  clear hL hn
  go_enter Try.func5, Try.ntmps5
  go_wp2_with fail
  refine (unhide KS).mono ?_
  rintro e w1 ⟨⟨r, rfl, hr⟩, rfl⟩
  cases r
  · go_wp2_with (go_at_call 12; refine (awake_any _).mono ?_; rintro e w' ⟨rfl, hb⟩)
    go_ret
    exact ⟨rfl, hb⟩
  clear hr KS
  have KN := hide (new_any (1 + (j : Int)) w (by omega) (by omega))
  go_wp2_with fail
  refine (unhide KN).mono ?_
  clear KN
  rintro e w1 ⟨rfl, hd1, hb1⟩
  have hat1 := start_at0 w w1 _ hd1
  have hro1 : (DS.start (1 + (j : Int)).toNat).room = 1 + j := by simp only [DS.start]; omega
  have h256 : (DS.start (1 + (j : Int)).toNat).B256 := fun i _ y hy => by cases hy
  have HAT := hide (Fam.one (AtX.of_at hat1))
  have HB1 := hide hb1
  have HRO := hide hro1
  have H256 := hide h256
  clear hd1 hat1 hb1 hro1 h256
  generalize DS.start (1 + (j : Int)).toNat = d0 at *
  go_wp2_with fail
  go_loopw [30] (fun i wr => ∃ k : Nat, k ≤ nl ∧ i = .int .i64 k ∧ Fam (fun x => x < w.heap.size) 1 wr (fun _ => w.heap.size) (fun _ => d0.run (L.take k)) ∧ Below w.heap.size w wr) (fun i _ => nl - (intOf i).toNat)
  case atStart => exact ⟨0, by omega, rfl, by simpa [DS.run] using unhide HAT, unhide HB1⟩
  case round =>
    obtain ⟨k, hk, rfl, hfam, hbel⟩ := hrel
    by_cases g1 : k < nl
    · have i1 : (k : Int) < (nl : Int) := by omega
      have i0 : (0 : Int) ≤ (k : Int) := by omega
      obtain ⟨c, hc1⟩ : ∃ c, L[k]? = some c := ⟨_, List.getElem?_eq_getElem (by rw [unhide HN]; exact g1)⟩
      have hD := (unhide HL).call hbel
      rcases hD.2 with h0 | ⟨b, off, rfl, hlt, hx⟩
      · rw [h0] at hc1; simp at hc1
      obtain ⟨q0, q1, q2, q3⟩ := hx k c hc1
      have hok := hD.1 c (List.mem_of_getElem? hc1)
      have hok0 := (unhide HL).1 c (List.mem_of_getElem? hc1)
      have hrun := hide (d0.run_next hc1)
      have hrok : (d0.run (L.take k)).room = 1 + j := (DS.run_room _ _).trans (unhide HRO)
      have h256k : (d0.run (L.take k)).B256 := DS.run256 _ _ (unhide H256) (fun c hc => ((unhide HL).1 c (List.mem_of_mem_take hc)).b256)
      obtain ⟨a1, cap1, hv⟩ := byt_shape hok.byt
      rw [hv] at q3
      generalize hdk : d0.run (L.take k) = dk at *
      have hal : Below wr.heap.size wr (wr.alloc (.cells #[.int .i64 c.op, .int .i64 c.file, .int .i64 c.n, .slice a1 c.b.length cap1] 34)) := (Below.refl _ _).alloc (Nat.le_refl _) _
      have hsz := hbel.size
      have hb2 := hbel.trans (hal.mono hsz)
      have hX2 : ∀ x, x < w.heap.size → x < (wr.alloc (.cells #[.int .i64 c.op, .int .i64 c.file, .int .i64 c.n, .slice a1 c.b.length cap1] 34)).heap.size := fun x hx => Nat.lt_of_lt_of_le hx hb2.size
      have KC := hide (fam_clone _ 1 _ _ 0 (by decide) w.heap.size rfl _ (hfam.call hal) hX2)
      have hvar : (wr.alloc (.cells #[.int .i64 c.op, .int .i64 c.file, .int .i64 c.n, .slice a1 c.b.length cap1] 34)).cell? ⟨wr.heap.size, 0, none⟩ = some (.int .i64 c.op) ∧ (wr.alloc (.cells #[.int .i64 c.op, .int .i64 c.file, .int .i64 c.n, .slice a1 c.b.length cap1] 34)).cell? ⟨wr.heap.size, 1, none⟩ = some (.int .i64 c.file) ∧ (wr.alloc (.cells #[.int .i64 c.op, .int .i64 c.file, .int .i64 c.n, .slice a1 c.b.length cap1] 34)).cell? ⟨wr.heap.size, 2, none⟩ = some (.int .i64 c.n) ∧ (wr.alloc (.cells #[.int .i64 c.op, .int .i64 c.file, .int .i64 c.n, .slice a1 c.b.length cap1] 34)).cell? ⟨wr.heap.size, 3, none⟩ = some (.slice a1 c.b.length cap1) := by
        refine ⟨?_, ?_, ?_, ?_⟩ <;> (simp [go_sem]; done)
      have hwl : wr.heap.size < (wr.alloc (.cells #[.int .i64 c.op, .int .i64 c.file, .int .i64 c.n, .slice a1 c.b.length cap1] 34)).heap.size := by simp
      have HVAR := hide hvar
      have HWL := hide hwl
      have HB2 := hide hb2
      have HOK := hide hok0
      have HC1 := hide hc1
      clear hvar hx hD hok hok0 hX2 hal hfam hb2 hc1 hwl
      go_wp2_with fail
      generalize (wr.alloc (.cells #[.int .i64 c.op, .int .i64 c.file, .int .i64 c.n, .slice a1 c.b.length cap1] 34)) = w2 at *
      clear q0 q1 q2 q3
      refine (unhide KC).mono ?_
      clear KC
      rintro e w3 ⟨rfl, hfam3, hb3⟩
      have hB3 := (unhide HB2).trans (hb3.mono (unhide HB2).size)
      have hvw := unhide HWL
      obtain ⟨v0, v1, v2, v3⟩ := unhide HVAR
      have y0 := cell_keep hb3 hvw v0
      have y1 := cell_keep hb3 hvw v1
      have y2 := cell_keep hb3 hvw v2
      have y3 := cell_keep hb3 hvw v3
      have hX3 : ∀ x, x < w.heap.size → x < w3.heap.size := fun x hx => Nat.lt_of_lt_of_le hx hB3.size
      have KD := fam_does _ 2 _ _ 0 (by decide) w.heap.size rfl c w3 hfam3 hX3 ((unhide HOK).call hB3) (fun hl => byt_far (unhide HOK).byt (Nat.le_refl _) hl)
      rw [hv] at KD
      have KD := hide KD
      have HB3 := hide hB3
      clear hfam3 hb3 v0 v1 v2 v3 hvw hX3 hB3
      go_wp2_with fail
      refine (unhide KD).mono ?_
      clear KD y0 y1 y2 y3
      rintro e w4 ⟨rfl, hfam4, hk4⟩
      have hB4 := (unhide HB3).trans (hk4.below (fun x hx => hx))
      have hX4 : ∀ x, x < w.heap.size → x < w4.heap.size := fun x hx => Nat.lt_of_lt_of_le hx hB4.size
      have KU := hide (fam_used _ 2 _ _ 0 (by decide) w.heap.size rfl w4 hfam4)
      have hus : (dk.step c).used ≤ 1 + j := by
        have q1 := (hfam4.ok (i := 0) (by decide)).used
        have q2 : (dk.step c).room = 1 + j := (dk.step_room c).trans hrok
        rw [← q2]; exact q1
      have hnu : ¬ (1 + (j : Int) < ((dk.step c).used : Int)) := by omega
      have hnu2 : decide (1 + (j : Int) < ((dk.step c).used : Int)) = false := by simpa using hnu
      have HF4 := hide hfam4
      have HX4 := hide hX4
      have HB4 := hide hB4
      clear hfam4 hk4 hX4 hB4
      go_wp2_with fail
      refine (unhide KU).mono ?_
      clear KU
      rintro e w' ⟨rfl, rfl⟩
      rw [show (upd (upd (fun _ => dk) 1 dk) 0 ((upd (fun _ => dk) 1 dk 0).step c) 0).used = (dk.step c).used from rfl]
      rw [show (upd (fun (_ : Nat) => dk) 1 dk 0).doE c.op c.file c.n c.b = dk.doE c.op c.file c.n c.b from rfl]
      generalize hde : dk.doE c.op c.file c.n c.b = de at *
      generalize (dk.step c).used = us at *
      by_cases g7 : de = 7
      · subst g7
        have hsame := full_same dk c hde
        have hfam : Fam (fun x => x < w.heap.size) 2 w4 (fun i => match i with | 0 => w.heap.size | _ => w2.heap.size) (fun _ => dk) := by
          refine (unhide HF4).cast (fun i hi => ?_) (fun i hi => ?_)
          · match i, hi with
            | 0, _ => rfl
            | 1, _ => rfl
          · match i, hi with
            | 0, _ => exact hsame
            | 1, _ => rfl
        have KF := hide (fam_files _ 2 _ _ 1 (by decide) w2.heap.size rfl w4 hfam (unhide HX4))
        clear hfam
        go_wp2_with fail
        refine (unhide KF).mono ?_
        clear KF
        rintro e w5 ⟨v0, v1, v2, rfl, hf5, hk5, m0, m1, m2⟩
        obtain ⟨b0, p0, rfl⟩ := m0.shape
        obtain ⟨b1, p1, rfl⟩ := m1.shape
        obtain ⟨b2, p2, rfl⟩ := m2.shape
        have hB5 := (unhide HB4).trans (hk5.below (fun x hx => hx))
        have hX5 : ∀ x, (x < w.heap.size ∨ (w4.heap.size ≤ x ∧ x < w5.heap.size)) → x < w5.heap.size := fun x hx => by
          have := hB5.size
          omega
        have KC := hide (fam_clone _ 2 _ _ 0 (by decide) w.heap.size rfl w5 (hf5 w5.heap.size) hX5)
        have HN5 := hide (And.intro m0 (And.intro m1 m2))
        have HB5 := hide hB5
        have HX5 := hide hX5
        clear hf5 hk5 m0 m1 m2 hB5 hX5
        go_wp2_with fail
        refine (unhide KC).mono ?_
        clear KC
        rintro e w6 ⟨rfl, hf6, hb6⟩
        have hX6 : ∀ x, (x < w.heap.size ∨ (w4.heap.size ≤ x ∧ x < w5.heap.size)) → x < w6.heap.size := fun x hx => Nat.lt_of_lt_of_le (unhide HX5 x hx) hb6.size
        have KF := hide (fam_files _ 3 _ _ 2 (by decide) w5.heap.size rfl w6 hf6 hX6)
        have HB6 := hide hb6
        clear hf6 hX6 hb6
        go_wp2_with fail
        refine (unhide KF).mono ?_
        clear KF
        rintro e w7 ⟨x0, x1, x2, rfl, hf7, hk7, m0', m1', m2'⟩
        have m0 : New w6.heap.size w7 x0 (dk.F 0) := m0'
        have m1 : New w6.heap.size w7 x1 (dk.F 1) := m1'
        have m2 : New w6.heap.size w7 x2 (dk.F 2) := m2'
        clear m0' m1' m2'
        obtain ⟨e0, s0, rfl⟩ := m0.shape
        obtain ⟨e1, s1, rfl⟩ := m1.shape
        obtain ⟨e2, s2, rfl⟩ := m2.shape
        have hk57 : Kept (fun x => x < w.heap.size ∨ (w4.heap.size ≤ x ∧ x < w5.heap.size)) w5 w7 := (Kept.of_below (unhide HB6) (unhide HX5)).trans hk7
        have n0 := hk57.new (unhide HN5).1 (fun x h1 h2 => .inr ⟨h1, h2⟩)
        have n1 := hk57.new (unhide HN5).2.1 (fun x h1 h2 => .inr ⟨h1, h2⟩)
        have n2 := hk57.new (unhide HN5).2.2 (fun x h1 h2 => .inr ⟨h1, h2⟩)
        have hB7 : Below w.heap.size w w7 := (unhide HB5).trans (hk57.below (fun x hx => .inl hx))
        have HB7 := hide hB7
        have HF7 := hide (hf7 w7.heap.size)
        have HN7 := hide (And.intro (And.intro n0.byt (And.intro n1.byt n2.byt)) (And.intro m0.byt (And.intro m1.byt m2.byt)))
        clear hf7 hk7 m0 m1 m2 n0 n1 n2 hB7 hk57
        have hwa : Below w7.heap.size w7 ((w7.alloc (.cells #[.slice b0 (dk.F 0).length p0, .slice b1 (dk.F 1).length p1, .slice b2 (dk.F 2).length p2] 40)).alloc (.cells #[.slice e0 (dk.F 0).length s0, .slice e1 (dk.F 1).length s1, .slice e2 (dk.F 2).length s2] 40)) := ((Below.refl _ _).alloc (Nat.le_refl _) _).alloc (by simp) _
        have hoa := (Out.fresh w7 (.slice b0 (dk.F 0).length p0) (.slice b1 (dk.F 1).length p1) (.slice b2 (dk.F 2).length p2)).keep (w' := (w7.alloc (.cells #[.slice b0 (dk.F 0).length p0, .slice b1 (dk.F 1).length p1, .slice b2 (dk.F 2).length p2] 40)).alloc (.cells #[.slice e0 (dk.F 0).length s0, .slice e1 (dk.F 1).length s1, .slice e2 (dk.F 2).length s2] 40)) ((Below.refl _ _).alloc (by simp) _)
        have hob := Out.fresh (w7.alloc (.cells #[.slice b0 (dk.F 0).length p0, .slice b1 (dk.F 1).length p1, .slice b2 (dk.F 2).length p2] 40)) (.slice e0 (dk.F 0).length s0) (.slice e1 (dk.F 1).length s1) (.slice e2 (dk.F 2).length s2)
        have hz9 : w7.heap.size + 1 < ((w7.alloc (.cells #[.slice b0 (dk.F 0).length p0, .slice b1 (dk.F 1).length p1, .slice b2 (dk.F 2).length p2] 40)).alloc (.cells #[.slice e0 (dk.F 0).length s0, .slice e1 (dk.F 1).length s1, .slice e2 (dk.F 2).length s2] 40)).heap.size := by simp
        rw [show (w7.alloc (.cells #[.slice b0 (dk.F 0).length p0, .slice b1 (dk.F 1).length p1, .slice b2 (dk.F 2).length p2] 40)).heap.size = w7.heap.size + 1 by simp] at hob
        have HWA := hide hwa
        have HOA := hide hoa
        have HOB := hide hob
        have HZ9 := hide hz9
        clear hwa hoa hob hz9
        go_wp2_with fail
        generalize ((w7.alloc (.cells #[.slice b0 (dk.F 0).length p0, .slice b1 (dk.F 1).length p1, .slice b2 (dk.F 2).length p2] 40)).alloc (.cells #[.slice e0 (dk.F 0).length s0, .slice e1 (dk.F 1).length s1, .slice e2 (dk.F 2).length s2] 40)) = w9 at *
        have HY : Hid ((Byt w9 (.slice b0 (dk.F 0).length p0) (dk.F 0) ∧ Byt w9 (.slice b1 (dk.F 1).length p1) (dk.F 1) ∧ Byt w9 (.slice b2 (dk.F 2).length p2) (dk.F 2)) ∧ (Byt w9 (.slice e0 (dk.F 0).length s0) (dk.F 0) ∧ Byt w9 (.slice e1 (dk.F 1).length s1) (dk.F 1) ∧ Byt w9 (.slice e2 (dk.F 2).length s2) (dk.F 2))) := by
          obtain ⟨⟨t0, t1, t2⟩, t3, t4, t5⟩ := unhide HN7
          have q := unhide HWA
          exact ⟨⟨t0.call q, t1.call q, t2.call q⟩, t3.call q, t4.call q, t5.call q⟩
        go_loopw [13, 50] (fun _ i wr => ∃ q : Nat, q ≤ 3 ∧ i = .int .i64 q ∧ Below w9.heap.size w9 wr) (fun _ i _ => 3 - (intOf i).toNat)
        case atStart => exact ⟨0, by omega, rfl, Below.refl _ _⟩
        case round =>
          obtain ⟨q, hq, rfl, hbi⟩ := hrel
          have hoa := (unhide HOA).keep (hbi.mono (by have := unhide HZ9; omega))
          have hob := (unhide HOB).keep (hbi.mono (unhide HZ9))
          obtain ⟨⟨x0, x1, x2⟩, -, -, -⟩ := id hoa
          obtain ⟨⟨y0, y1, y2⟩, -, -, -⟩ := id hob
          match q, hq with
          | 0, _ =>
            have HE := hide (p := ∀ n, Calls Try.prog 24 #[.slice b0 (dk.F 0).length p0, .slice e0 (dk.F 0).length s0] (wr.drewN n) fun e w' => e = .returned (.bool true) ∧ w' = wr.drewN n) (fun n =>
              (equal_same _ _ _ _ ((unhide HY).1.1.call (hbi.trans (Joins.below_draws _ _ n))) ((unhide HY).2.1.call (hbi.trans (Joins.below_draws _ _ n))) (h256k 0 (by decide))).mono (fun e w' h => ⟨h.1, h.2.symm⟩))
            have HBI := hide hbi
            clear hbi hoa hob
            go_wp2_with fail
            go_quiet ((go_at_call 24; exact Calls.quiet_of_same (unhide HE _)))
            have hbi2 := (unhide HBI).trans (Joins.below_draws _ _ nq)
            go_wp2
            go_roundw
            case rel => exact ⟨1, by omega, by go_num, hbi2⟩
            case measure => simp [intOf]
          | 1, _ =>
            have HE := hide (p := ∀ n, Calls Try.prog 24 #[.slice b1 (dk.F 1).length p1, .slice e1 (dk.F 1).length s1] (wr.drewN n) fun e w' => e = .returned (.bool true) ∧ w' = wr.drewN n) (fun n =>
              (equal_same _ _ _ _ ((unhide HY).1.2.1.call (hbi.trans (Joins.below_draws _ _ n))) ((unhide HY).2.2.1.call (hbi.trans (Joins.below_draws _ _ n))) (h256k 1 (by decide))).mono (fun e w' h => ⟨h.1, h.2.symm⟩))
            have HBI := hide hbi
            clear hbi hoa hob
            go_wp2_with fail
            go_quiet ((go_at_call 24; exact Calls.quiet_of_same (unhide HE _)))
            have hbi2 := (unhide HBI).trans (Joins.below_draws _ _ nq)
            go_wp2
            go_roundw
            case rel => exact ⟨2, by omega, by go_num, hbi2⟩
            case measure => simp [intOf]
          | 2, _ =>
            have HE := hide (p := ∀ n, Calls Try.prog 24 #[.slice b2 (dk.F 2).length p2, .slice e2 (dk.F 2).length s2] (wr.drewN n) fun e w' => e = .returned (.bool true) ∧ w' = wr.drewN n) (fun n =>
              (equal_same _ _ _ _ ((unhide HY).1.2.2.call (hbi.trans (Joins.below_draws _ _ n))) ((unhide HY).2.2.2.call (hbi.trans (Joins.below_draws _ _ n))) (h256k 2 (by decide))).mono (fun e w' h => ⟨h.1, h.2.symm⟩))
            have HBI := hide hbi
            clear hbi hoa hob
            go_wp2_with fail
            go_quiet ((go_at_call 24; exact Calls.quiet_of_same (unhide HE _)))
            have hbi2 := (unhide HBI).trans (Joins.below_draws _ _ nq)
            go_wp2
            go_roundw
            case rel => exact ⟨3, by omega, by go_num, hbi2⟩
            case measure => simp [intOf]
          | 3, _ =>
            have hb9 : Below w7.heap.size w7 wr := (unhide HWA).trans (hbi.mono (unhide HWA).size)
            have FIN := hide (And.intro ((unhide HF7).call hb9) ((unhide HB7).trans (hb9.mono (unhide HB7).size)))
            clear hoa hob hbi hb9
            go_wp2
            go_roundw
            case rel =>
              refine ⟨k + 1, by omega, by go_num, ?_, (unhide FIN).2⟩
              refine ((((unhide FIN).1.more (Y := fun x => x < w.heap.size) (fun x hx => .inl (.inl (.inl hx)))).less (by decide : 1 ≤ 3))).cast (fun i hi => ?_) (fun i hi => ?_)
              · obtain rfl : i = 0 := by omega
                rfl
              · obtain rfl : i = 0 := by omega
                rw [unhide hrun]; exact hsame.symm
            case measure => simp [intOf]; omega
      · have g7' : (de == 7) = false := by simpa using g7
        go_wp2
        go_roundw
        case rel =>
          refine ⟨k + 1, by omega, by go_num, ?_, unhide HB4⟩
          refine ((unhide HF4).less (by decide : 1 ≤ 2)).cast (fun i hi => ?_) (fun i hi => ?_)
          · obtain rfl : i = 0 := by omega
            rfl
          · obtain rfl : i = 0 := by omega
            rw [unhide hrun]; rfl
        case measure => simp [intOf]; omega
    · have hkn : k = nl := by omega
      go_wp2_with (go_at_call 12; refine (awake_any _).mono ?_; rintro e w' ⟨rfl, hb⟩)
      go_ret
      exact ⟨rfl, hbel.trans (hb.mono hbel.size)⟩
set_option maxRecDepth 100000 in
theorem lifted (os : Os) (started : os.Started) (H : Type) (enc : TypeId × Value → H) :
    ReturnsInHanded {} Try.checked os 5 .any (Rows.diskRoomSpec.pre6 enc Try.prog Try.f5 Rows.diskRoomRow.domain false) (Rows.diskRoomSpec.post enc Try.prog Try.f5 false true false false) := by
  refine returnsInHanded_of_change (C := Try.checked) own started (by kernel_rfl) Try.func5
    (ChangeSpec.witness6 (enc := enc) (C := Try.checked) false ⟨#[], #[.int .i64 0, .slice none 0 0], []⟩ 8 (by kernel_rfl) (by kernel_rfl) (by kernel_rfl) (by kernel_rfl)) ?_
  intro W base args ds gs before hval0 hW hcnd _
  have hval : ∀ (j : Nat) t v, Try.f5.params[j]? = some t → args[j]? = some v → Value.okWide Try.prog W .any base t v := hval0
  have hW' := hW
  obtain ⟨p, q, hA0, hV, rfl, hfz, hnd⟩ := hW
  have hA : DataW.TrodAll enc Try.prog W 0 (fun _ => true) true Try.f5.params.toList args.toList ds p := hA0
  rw [Try.params5] at hA hval
  obtain ⟨v0, vs0, d0, ds0, p0, q0, hargs, rfl, rfl, h0, r0⟩ := trodAll_cons hA
  obtain ⟨v1, vs1, d1, ds1, p1, q1, rfl, rfl, rfl, h1, r1⟩ := trodAll_cons r0
  obtain ⟨rfl, rfl, rfl⟩ := trodAll_nil r1
  obtain rfl : args = #[v0, v1] := by cases args; simp_all
  obtain ⟨rfl, rfl⟩ := trodVars_none hV
  have lt0 : ∀ x ∈ p0, x.block < W.heap.size := by obtain ⟨m, hm⟩ := h0; exact DataW.trod_lt m _ _ _ hm
  have lt1 : ∀ x ∈ p1, x.block < W.heap.size := by obtain ⟨m, hm⟩ := h1; exact DataW.trod_lt m _ _ _ hm
  obtain ⟨room, rfl, -, -⟩ := open_i64 (hval 0 3 v0 rfl rfl) h0
  obtain ⟨a, L, cap, rfl, hc, hm, hL⟩ := open_dos (hval 1 22 v1 rfl rfl) h1
  clear hA0 hval0
  refine (walk room a L cap W hL hc hm).mono fun e W' ⟨he, bel⟩ => ?_
  subst he
  exact ⟨_, rfl, _, _, _, [], _, [], hW', trodAll_mk1 (shut_bool Try.underlying4 _), (trodAll_cons_mk (Below.trod laidOut (by kernel_rfl) (of_decide_eq_true (by kernel_rfl)) h0 bel lt0) (trodAll_cons_mk (Below.trod laidOut (by kernel_rfl) (of_decide_eq_true (by kernel_rfl)) h1 bel lt1) trodAll_mk0)), rfl, bel.frame _, fun h => by cases h⟩

theorem proved : Rows.DiskRoomSaid :=
  OpenClaim.holds_of_wide 5 Try.f5 rfl rfl rfl rfl rfl rfl rfl ⟨rfl, rfl, rfl, rfl, rfl⟩ rfl rfl rfl rfl rfl (by kernel_rfl) Try.func5 (by kernel_rfl)
    (of_decide_eq_true (by kernel_rfl)) (by unfold Func.isWrapper; first | (rw [if_pos (by decide +kernel)]; kernel_rfl) | (rw [if_neg (by decide +kernel)]; exact ⟨rfl, rfl⟩))
    (fun os started H enc _ => lifted os started H enc)
#print axioms proved
end Go.Proofs.Ytadjgljimikodaa.room
