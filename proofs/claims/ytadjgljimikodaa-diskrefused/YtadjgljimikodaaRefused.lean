/- For any calls and any call the Go function sealskinlaw05.DiskRefused returns true, and its arguments read as they did. No condition. -/
import Derived.Test.YtadjgljimikodaaDosOwn
import Derived.SizedLaws
namespace Go.Proofs.Ytadjgljimikodaa.refused
set_option linter.unusedVariables false
set_option linter.unusedSimpArgs false
open Go.ChangeShapes Go.WideShapes Go.ChangeAt Go.RowKit Go.Joins

theorem refused_same (d : DS) (c : Cl) (h0 : d.doE c.op c.file c.n c.b ≠ 0) (h1 : ¬ (d.doE c.op c.file c.n c.b = 50 ∧ d.on = true)) : d.step c = d := by
  unfold DS.doE at h0 h1
  unfold DS.step DS.doD
  have hb : ∀ n, d.burnE n = 0 ∨ d.burnE n = 50 := by intro n; unfold DS.burnE; split; exact .inl rfl; split; exact .inr rfl; exact .inl rfl
  cases hon : d.on with
  | false =>
    clear h1 hb
    split at h0
    · rename_i h; rw [if_pos h]; unfold DS.wipeD; rw [hon]; rfl
    rename_i h4; rw [if_neg h4]
    split at h0
    · rename_i h; rw [if_pos h]; unfold DS.crashD; rw [hon]; rfl
    rename_i h5; rw [if_neg h5]
    split at h0
    · exact absurd rfl h0
    rename_i h6; rw [if_neg h6]
    split at h0
    · rename_i h; rw [if_pos h]; unfold DS.armD; rw [hon]; rfl
    rename_i h7; rw [if_neg h7]
    split at h0
    · rename_i h; rw [if_pos h]; unfold DS.disarmD; rw [hon]; rfl
    rename_i h8; rw [if_neg h8]
    unfold DS.appD; rw [hon]; rfl
  | true =>
    have h1' : ∀ e : Int, (if kind c.op = 4 then d.wipeE c.file else if kind c.op = 5 then d.check else if kind c.op = 6 then 0 else if kind c.op = 7 then d.armE c.n else if kind c.op = 8 then d.check else d.appE c.file c.b.length) = e → e ≠ 50 := fun e he q => h1 ⟨he.trans q, hon⟩
    clear h1
    have hc : d.check = 0 := by unfold DS.check; rw [hon]; rfl
    split at h0
    · rename_i h; rw [if_pos h] at h1' ⊢
      have h5 := h1' _ rfl
      unfold DS.wipeE at h0 h5
      unfold DS.wipeD
      rw [hon, if_pos rfl] at h0 h5
      rw [if_pos hon]
      split at h0
      · rename_i q; rw [if_pos q] at h5
        rcases hb 1 with q | q
        · exact absurd q h0
        · exact absurd q h5
      · rename_i q; rw [if_neg q]
    rename_i h4; rw [if_neg h4] at h1' ⊢
    split at h0
    · exact absurd hc h0
    rename_i h5; rw [if_neg h5] at h1' ⊢
    split at h0
    · exact absurd rfl h0
    rename_i h6; rw [if_neg h6] at h1' ⊢
    split at h0
    · rename_i h; rw [if_pos h]
      unfold DS.armE at h0
      unfold DS.armD
      rw [hon, if_pos rfl] at h0
      rw [if_pos hon]
      split at h0
      · rename_i q; rw [if_pos q]
      · exact absurd rfl h0
    rename_i h7; rw [if_neg h7] at h1' ⊢
    split at h0
    · exact absurd hc h0
    rename_i h8; rw [if_neg h8] at h1' ⊢
    have h9 := h1' _ rfl
    unfold DS.appE at h0 h9
    unfold DS.appD
    rw [hon, if_pos rfl] at h0 h9
    rw [if_pos hon]
    split at h0
    · rename_i q; rw [if_pos q] at h9 ⊢
      split at h0
      · rename_i q2; rw [if_pos q2]
      · rename_i q2; rw [if_neg q2] at h9
        rcases hb c.b.length with q | q
        · exact absurd q h0
        · exact absurd q h9
    · rename_i q; rw [if_neg q]
theorem off_down (d : DS) (c : Cl) (h : d.on = false) : d.doE c.op c.file c.n c.b = 0 ∨ d.doE c.op c.file c.n c.b = 50 := by
  unfold DS.doE
  split
  · right; unfold DS.wipeE; rw [h]; rfl
  split
  · right; unfold DS.check; rw [h]; rfl
  split
  · left; rfl
  split
  · right; unfold DS.armE; rw [h]; rfl
  split
  · right; unfold DS.check; rw [h]; rfl
  · right; unfold DS.appE; rw [h]; rfl
theorem out2 (w : World) (a0 a1 a2 b0 b1 b2 : Value) (W : World) (hW : (w.alloc (.cells #[a0, a1, a2] 40)).alloc (.cells #[b0, b1, b2] 40) = W) :
    (Out W w.heap.size (fun j => match j with | 0 => a0 | 1 => a1 | _ => a2) ∧ Out W (w.heap.size + 1) (fun j => match j with | 0 => b0 | 1 => b1 | _ => b2)) ∧ Below w.heap.size w W ∧ w.heap.size + 1 < W.heap.size := by
  subst hW
  have s1 : (w.alloc (.cells #[a0, a1, a2] 40)).heap.size = w.heap.size + 1 := by simp
  have o1 := Out.fresh w a0 a1 a2
  have o2 := Out.fresh (w.alloc (.cells #[a0, a1, a2] 40)) b0 b1 b2
  rw [s1] at o2
  refine ⟨⟨?_, o2⟩, ((Below.refl _ _).alloc (Nat.le_refl _) _).alloc (by omega) _, by simp⟩
  exact o1.keep ((Below.refl _ _).alloc (by omega) _)

set_option maxHeartbeats 8000000 in
theorem walk (a : Option Addr) (L : List Cl) (cap : Nat) (c : Cl) (w : World) (hL : Dos w a L) (hc : L.length ≤ cap) (hm : cap ≤ maxLen) (hreach : L.length * 48 ≤ 140737488351232) (hok : ClOk w c) :
    Calls Try.prog 8 #[.slice a L.length cap, .agg #[.int .i64 c.op, .int .i64 c.file, .int .i64 c.n, c.v]] w fun e w' => e = .returned (.bool true) ∧ Below w.heap.size w w' := by
  obtain ⟨i0, hi, hz0, hz1, hz2⟩ := info_parts info34
  obtain ⟨av, cv, hv⟩ := byt_shape hok.byt
  obtain ⟨n, hn⟩ : ∃ n, L.length = n := ⟨_, rfl⟩
  have HL := hide hL
  have HOK := hide hok
  have HN := hide hn
  have HV := hide hv
  rw [hn] at hc hreach
  rw [hn, hv]
  have hb2 : Below w.heap.size w ((w.alloc (.cells #[.int .i64 c.op, .int .i64 c.file, .int .i64 c.n, .slice av c.b.length cv] 34)).alloc (.cells #[.int .i64 c.op, .int .i64 c.file, .int .i64 c.n, .slice av c.b.length cv] 34)) := ((Below.refl _ _).alloc (Nat.le_refl _) _).alloc (by simp) _
  have ho2 : ((w.alloc (.cells #[.int .i64 c.op, .int .i64 c.file, .int .i64 c.n, .slice av c.b.length cv] 34)).alloc (.cells #[.int .i64 c.op, .int .i64 c.file, .int .i64 c.n, .slice av c.b.length cv] 34)).ownsRow (w.heap.size + 1) 34 4 (.slice (some ⟨w.heap.size + 1, 0, none⟩) 1 1) 1 [.int .i64 c.op, .int .i64 c.file, .int .i64 c.n, .slice av c.b.length cv] := by
    refine ⟨rfl, .inr ⟨w.heap.size + 1, 1, #[.int .i64 c.op, .int .i64 c.file, .int .i64 c.n, .slice av c.b.length cv], rfl, Nat.le_refl _, ?_, Nat.le_refl _, by decide, rfl, rfl⟩⟩
    have q := heap_alloc_new (w.alloc (.cells #[.int .i64 c.op, .int .i64 c.file, .int .i64 c.n, .slice av c.b.length cv] 34)) (.cells #[.int .i64 c.op, .int .i64 c.file, .int .i64 c.n, .slice av c.b.length cv] 34)
    simpa using q
  have hvar : ∀ W, Below (w.heap.size + 1) ((w.alloc (.cells #[.int .i64 c.op, .int .i64 c.file, .int .i64 c.n, .slice av c.b.length cv] 34)).alloc (.cells #[.int .i64 c.op, .int .i64 c.file, .int .i64 c.n, .slice av c.b.length cv] 34)) W → W.cell? ⟨w.heap.size, 0, none⟩ = some (.int .i64 c.op) ∧ W.cell? ⟨w.heap.size, 1, none⟩ = some (.int .i64 c.file) ∧ W.cell? ⟨w.heap.size, 2, none⟩ = some (.int .i64 c.n) ∧ W.cell? ⟨w.heap.size, 3, none⟩ = some (.slice av c.b.length cv) := by
    intro W hW
    have hl : w.heap.size < w.heap.size + 1 := Nat.lt_succ_self _
    refine ⟨cell_keep hW hl ?_, cell_keep hW hl ?_, cell_keep hW hl ?_, cell_keep hW hl ?_⟩ <;> (simp [go_sem]; done)
  have hs2 : ((w.alloc (.cells #[.int .i64 c.op, .int .i64 c.file, .int .i64 c.n, .slice av c.b.length cv] 34)).alloc (.cells #[.int .i64 c.op, .int .i64 c.file, .int .i64 c.n, .slice av c.b.length cv] 34)).heap.size = w.heap.size + 1 + 1 := by simp
  have D2 := hide (hL.call hb2)
  have HB2 := hide hb2
  have HO2 := hide ho2
  have HVAR := hide hvar
  have HS2 := hide hs2
  have HLN : Hid ((clvs L).length = n * 4) := hide (by rw [clvs_len, hn])
  unfold maxLen at hm
  clear hL hok hn hv hb2 ho2 hvar hs2
  generalize hcl : c.b.length = cl at *
  go_enter Try.func8, Try.ntmps8
  go_wp2_with (at_builtin; refine wpList_append_src _ rfl _ _ 22 rfl (w.heap.size + 1) 34 i0 _ 4 48 Try.underlying22 hi hz0 hz1 hz2 rfl (by decide) _ _ _ rfl (unhide HO2) a n cap (clvs L) rfl (unhide HLN) ?c6 (unhide D2).news (clvs_one (unhide D2).1) ?c3 ?c4 ?c5 ?_)
  case c6 => intro q; have := (unhide D2).none_len q; rw [unhide HN] at this; exact this
  case c3 => unfold maxLen; omega
  case c4 => omega
  case c5 => rw [unhide HS2]; omega
  intro a3 cap3 w3 ho3 hg3
  have hb23 : Below (w.heap.size + 1) ((w.alloc (.cells #[.int .i64 c.op, .int .i64 c.file, .int .i64 c.n, .slice av cl cv] 34)).alloc (.cells #[.int .i64 c.op, .int .i64 c.file, .int .i64 c.n, .slice av cl cv] 34)) w3 := (Below.refl _ _).grown hg3 (by rw [unhide HS2]; omega) (fun k hk => by simp [Value.ownBlock] at hk; omega)
  have hB3 : Below w.heap.size w w3 := (unhide HB2).trans (hb23.mono (by omega))
  have hV3 := unhide HVAR w3 hb23
  have hs3 : w.heap.size + 1 ≤ w3.heap.size := by have := hb23.size; rw [unhide HS2] at this; omega
  have hok3 : ∀ x ∈ c :: L, ClOk w3 x := by
    intro x hx
    rcases List.mem_cons.1 hx with rfl | hx
    · exact (unhide HOK).call hB3
    · exact ((unhide HL).1 x hx).call hB3
  have ecl : (.int .i64 c.op :: .int .i64 c.file :: .int .i64 c.n :: .slice av cl cv :: clvs L : List Value) = clvs (c :: L) := by
    show _ = clv c ++ clvs L
    rw [clv, unhide HV]
    rfl
  rw [ecl] at ho3
  obtain ⟨hD3, hc3, hm3⟩ := Dos.of_own (show (c :: L).length = 1 + n by rw [List.length_cons, unhide HN]; omega) ho3 hok3
  have KS := short_any a3 (c :: L) cap3 w3 hD3 (by rw [List.length_cons, unhide HN]; omega) hm3
  rw [show (c :: L).length = 1 + n by rw [List.length_cons, unhide HN]; omega] at KS
  have KS := hide KS
  have HB3 := hide hB3
  have HV3 := hide hV3
  have HAS : Hid (w.heap.size ≤ w3.heap.size) := hide (by omega)
  have KM := lmade_any 4194304 a L cap w3 ((unhide HL).call hB3) (by rw [unhide HN]; exact hc) (by unfold maxLen; exact hm) (by decide) (by decide)
  rw [unhide HN] at KM
  have KM := hide KM
  clear hg3 ho3 hb23 hB3 hV3 hok3 ecl hD3 hc3 hm3
  go_wp2_with fail
  refine (unhide KS).mono ?_
  clear KS
  rintro e w4 ⟨⟨r, rfl, hr⟩, rfl⟩
  cases r
  · clear hr
    have hB := unhide HB3
    go_wp2_with (go_at_call 12; refine (awake_any _).mono ?_; rintro e w' ⟨rfl, hb⟩)
    go_ret
    exact ⟨rfl, hB.trans (hb.mono hB.size)⟩
  clear hr
  go_wp2_with fail
  refine (unhide KM).mono ?_
  clear KM
  rintro e w4 ⟨rfl, hat4, hb4⟩
  have h256 : ((DS.start (Int.toNat 4194304)).run L).B256 := DS.run256 L _ (fun i _ y hy => by cases hy) (fun x hx => ((unhide HL).1 x hx).b256)
  generalize (DS.start (Int.toNat 4194304)).run L = d1 at *
  have H256 := hide h256
  have hf4 := Fam.one (AtX.of_at hat4)
  have HB4 := hide hb4
  clear hat4 h256 hb4
  cases hon : d1.on
  · have KR := fam_readbad _ 1 _ _ 0 (by decide) w3.heap.size rfl 0 w4 hf4 (.inl hon)
    rw [show (d1.checkF 0) = 50 by unfold DS.checkF; rw [hon]; rfl] at KR
    have KR := hide KR
    have HF4 := hide hf4
    clear hf4
    go_wp2_with fail
    refine (unhide KR).mono ?_
    clear KR
    rintro e w5x ⟨rfl, rfl⟩
    have hB5 := unhide HB4
    have hf5 := unhide HF4
    have hX5 : ∀ x, x < w3.heap.size → x < w4.heap.size := fun x hx => Nat.lt_of_lt_of_le hx hB5.size
    have KC := hide (fam_clone _ 1 _ _ 0 (by decide) w3.heap.size rfl w4 hf5 hX5)
    have HB5 := hide hB5
    clear hf5 hX5 hB5
    go_wp2_with fail
    refine (unhide KC).mono ?_
    clear KC
    rintro e w6 ⟨rfl, hf6, hb6⟩
    have hB36 := (unhide HB5).trans (hb6.mono (unhide HB5).size)
    have hX6 : ∀ x, x < w3.heap.size → x < w6.heap.size := fun x hx => Nat.lt_of_lt_of_le hx hB36.size
    have hB6 := (unhide HB3).trans (hB36.mono (unhide HAS))
    have KD := fam_does _ 2 _ _ 0 (by decide) w3.heap.size rfl c w6 hf6 hX6 ((unhide HOK).call hB6) (fun hl => byt_far (unhide HOK).byt (unhide HAS) hl)
    rw [unhide HV] at KD
    have KD := hide KD
    have hw : w.heap.size < w3.heap.size := hs3
    obtain ⟨x0, x1, x2, x3⟩ := unhide HV3
    have y0 := cell_keep hB36 hw x0
    have y1 := cell_keep hB36 hw x1
    have y2 := cell_keep hB36 hw x2
    have y3 := cell_keep hB36 hw x3
    have HB36 := hide hB36
    clear hf6 hb6 hX6 hB36 hB6 x0 x1 x2 x3
    go_wp2_with fail
    refine (unhide KD).mono ?_
    clear KD y0 y1 y2 y3
    rintro e w7 ⟨rfl, hf7, hk7⟩
    have hB37 := (unhide HB36).trans (hk7.below (fun x hx => hx))
    have hB7 := (unhide HB3).trans (hB37.mono (unhide HAS))
    have HB37 := hide hB37
    have HB7 := hide hB7
    rw [show (upd (fun (_ : Nat) => d1) 1 d1 0).doE c.op c.file c.n c.b = d1.doE c.op c.file c.n c.b from rfl]
    generalize hde : d1.doE c.op c.file c.n c.b = de at *
    clear hk7 hB37 hB7
    rcases (show de = 0 ∨ de = 50 by rw [← hde]; exact off_down d1 c hon) with g0 | g50
    · subst g0
      have hB := unhide HB7
      go_wp2_with (go_at_call 12; refine (awake_any _).mono ?_; rintro e w' ⟨rfl, hb⟩)
      go_ret
      exact ⟨rfl, hB.trans (hb.mono hB.size)⟩
    · subst g50
      have hsame := refused_same d1 c (by rw [hde]; decide) (by rw [hde]; exact fun q => by rw [hon] at q; exact absurd q.2 (by decide))
      have hfam : Fam (fun x => x < w3.heap.size) 2 w7 (fun i => match i with | 0 => w3.heap.size | _ => w4.heap.size) (fun _ => d1) := by
        refine hf7.cast (fun i hi => ?_) (fun i hi => ?_)
        · match i, hi with
          | 0, _ => rfl
          | 1, _ => rfl
        · match i, hi with
          | 0, _ => exact hsame
          | 1, _ => rfl
      clear hf7
      have KR := fam_readbad _ 2 _ _ 0 (by decide) w3.heap.size rfl 0 w7 hfam (.inl hon)
      rw [show (d1.checkF 0) = 50 by unfold DS.checkF; rw [hon]; rfl] at KR
      have KR := hide KR
      have HF7 := hide hfam
      clear hfam
      go_wp2_with fail
      refine (unhide KR).mono ?_
      clear KR
      rintro e w8x ⟨rfl, rfl⟩
      have hB8 := unhide HB7
      have hf8 := unhide HF7
      have hX8 : ∀ x, x < w3.heap.size → x < w7.heap.size := fun x hx => by
        have := (unhide HB37).size
        skip
        omega
      have KF := hide (fam_files _ 2 _ _ 1 (by decide) w4.heap.size rfl w7 hf8 hX8)
      have HB8 := hide hB8
      clear hf8 hX8 hB8
      go_wp2_with fail
      refine (unhide KF).mono ?_
      clear KF
      rintro e wa ⟨va0, va1, va2, rfl, hfa, hka, ma0, ma1, ma2⟩
      have hBa := (unhide HB8).trans (hka.below (fun x hx => Nat.lt_of_lt_of_le hx (unhide HAS)))
      have hszA := hka.size
      have hXa : ∀ x, (x < w3.heap.size ∨ (w7.heap.size ≤ x ∧ x < wa.heap.size)) → x < wa.heap.size := fun x hx => by
        have := (unhide HB37).size
        skip
        omega
      have KF := hide (fam_files _ 2 _ _ 0 (by decide) w3.heap.size rfl wa (hfa wa.heap.size) hXa)
      replace ma0 : New w7.heap.size wa va0 (d1.F 0) := ma0
      replace ma1 : New w7.heap.size wa va1 (d1.F 1) := ma1
      replace ma2 : New w7.heap.size wa va2 (d1.F 2) := ma2
      obtain ⟨b0, p0, rfl⟩ := ma0.shape
      obtain ⟨b1, p1, rfl⟩ := ma1.shape
      obtain ⟨b2, p2, rfl⟩ := ma2.shape
      have NA := hide (And.intro ma0 (And.intro ma1 ma2))
      have HBA := hide hBa
      clear hfa hka ma0 ma1 ma2 hBa hXa
      go_wp2_with fail
      refine (unhide KF).mono ?_
      clear KF
      rintro e wb ⟨vb0, vb1, vb2, rfl, hfb, hkb, mb0, mb1, mb2⟩
      have hBb := (unhide HBA).trans (hkb.below (fun x hx => .inl (Nat.lt_of_lt_of_le hx (unhide HAS))))
      replace mb0 : New wa.heap.size wb vb0 (d1.F 0) := mb0
      replace mb1 : New wa.heap.size wb vb1 (d1.F 1) := mb1
      replace mb2 : New wa.heap.size wb vb2 (d1.F 2) := mb2
      obtain ⟨e0, s0, rfl⟩ := mb0.shape
      obtain ⟨e1, s1, rfl⟩ := mb1.shape
      obtain ⟨e2, s2, rfl⟩ := mb2.shape
      have NN := hide (And.intro (And.intro (hkb.new (unhide NA).1 (fun x h1 h2 => .inr ⟨h1, h2⟩)).byt (And.intro (hkb.new (unhide NA).2.1 (fun x h1 h2 => .inr ⟨h1, h2⟩)).byt (hkb.new (unhide NA).2.2 (fun x h1 h2 => .inr ⟨h1, h2⟩)).byt)) (And.intro mb0.byt (And.intro mb1.byt mb2.byt)))
      have HBB := hide hBb
      clear hfb hkb mb0 mb1 mb2 hBb NA
      obtain ⟨W, hW⟩ : ∃ W, (wb.alloc (.cells #[.slice b0 (d1.F 0).length p0, .slice b1 (d1.F 1).length p1, .slice b2 (d1.F 2).length p2] 40)).alloc (.cells #[.slice e0 (d1.F 0).length s0, .slice e1 (d1.F 1).length s1, .slice e2 (d1.F 2).length s2] 40) = W := ⟨_, rfl⟩
      have HO := hide (out2 wb _ _ _ _ _ _ W hW)
      have HWE := hide hW
      clear hW
      go_wp2_with fail
      rw [unhide HWE]
      have HY : Hid ((Byt W (.slice b0 (d1.F 0).length p0) (d1.F 0) ∧ Byt W (.slice b1 (d1.F 1).length p1) (d1.F 1) ∧ Byt W (.slice b2 (d1.F 2).length p2) (d1.F 2)) ∧ (Byt W (.slice e0 (d1.F 0).length s0) (d1.F 0) ∧ Byt W (.slice e1 (d1.F 1).length s1) (d1.F 1) ∧ Byt W (.slice e2 (d1.F 2).length s2) (d1.F 2))) := by
        obtain ⟨⟨t0, t1, t2⟩, t3, t4, t5⟩ := unhide NN
        have q := (unhide HO).2.1
        exact ⟨⟨t0.call q, t1.call q, t2.call q⟩, t3.call q, t4.call q, t5.call q⟩
      have HBW := hide ((unhide HBB).trans ((unhide HO).2.1.mono (unhide HBB).size))
      clear HWE NN
      go_loopw [14, 54] (fun _ i wr => ∃ q : Nat, q ≤ 3 ∧ i = .int .i64 q ∧ Below W.heap.size W wr) (fun _ i _ => 3 - (intOf i).toNat)
      case atStart => exact ⟨0, by omega, rfl, Below.refl _ _⟩
      case round =>
        obtain ⟨q, hq, rfl, hbi⟩ := hrel
        obtain ⟨⟨oa, ob⟩, -, hz⟩ := unhide HO
        obtain ⟨⟨xa0, xa1, xa2⟩, -, -, -⟩ := oa.keep (hbi.mono (by omega))
        obtain ⟨⟨xb0, xb1, xb2⟩, -, -, -⟩ := ob.keep (hbi.mono hz)
        clear oa ob hz
        match q, hq with
        | 0, _ =>
          have HE := hide (p := ∀ n, Calls Try.prog 24 #[.slice b0 (d1.F 0).length p0, .slice e0 (d1.F 0).length s0] (wr.drewN n) fun e w' => e = .returned (.bool true) ∧ w' = wr.drewN n) (fun n =>
            (equal_same _ _ _ _ ((unhide HY).1.1.call (hbi.trans (Joins.below_draws _ _ n))) ((unhide HY).2.1.call (hbi.trans (Joins.below_draws _ _ n))) (unhide H256 0 (by decide))).mono (fun e w' h => ⟨h.1, h.2.symm⟩))
          have HBI := hide hbi
          clear hbi
          go_wp2_with fail
          go_quiet ((go_at_call 24; exact Calls.quiet_of_same (unhide HE _)))
          have hbi2 := (unhide HBI).trans (Joins.below_draws _ _ nq)
          go_wp2
          go_roundw
          case rel => exact ⟨1, by omega, by go_num, hbi2⟩
          case measure => simp [intOf]
        | 1, _ =>
          have HE := hide (p := ∀ n, Calls Try.prog 24 #[.slice b1 (d1.F 1).length p1, .slice e1 (d1.F 1).length s1] (wr.drewN n) fun e w' => e = .returned (.bool true) ∧ w' = wr.drewN n) (fun n =>
            (equal_same _ _ _ _ ((unhide HY).1.2.1.call (hbi.trans (Joins.below_draws _ _ n))) ((unhide HY).2.2.1.call (hbi.trans (Joins.below_draws _ _ n))) (unhide H256 1 (by decide))).mono (fun e w' h => ⟨h.1, h.2.symm⟩))
          have HBI := hide hbi
          clear hbi
          go_wp2_with fail
          go_quiet ((go_at_call 24; exact Calls.quiet_of_same (unhide HE _)))
          have hbi2 := (unhide HBI).trans (Joins.below_draws _ _ nq)
          go_wp2
          go_roundw
          case rel => exact ⟨2, by omega, by go_num, hbi2⟩
          case measure => simp [intOf]
        | 2, _ =>
          have HE := hide (p := ∀ n, Calls Try.prog 24 #[.slice b2 (d1.F 2).length p2, .slice e2 (d1.F 2).length s2] (wr.drewN n) fun e w' => e = .returned (.bool true) ∧ w' = wr.drewN n) (fun n =>
            (equal_same _ _ _ _ ((unhide HY).1.2.2.call (hbi.trans (Joins.below_draws _ _ n))) ((unhide HY).2.2.2.call (hbi.trans (Joins.below_draws _ _ n))) (unhide H256 2 (by decide))).mono (fun e w' h => ⟨h.1, h.2.symm⟩))
          have HBI := hide hbi
          clear hbi
          go_wp2_with fail
          go_quiet ((go_at_call 24; exact Calls.quiet_of_same (unhide HE _)))
          have hbi2 := (unhide HBI).trans (Joins.below_draws _ _ nq)
          go_wp2
          go_roundw
          case rel => exact ⟨3, by omega, by go_num, hbi2⟩
          case measure => simp [intOf]
        | 3, _ =>
          go_wp2_with (go_at_call 12; refine (awake_any _).mono ?_; rintro e w' ⟨rfl, hb⟩)
          go_ret
          have hB := (unhide HBW).trans (hbi.mono (unhide HBW).size)
          exact ⟨rfl, hB.trans (hb.mono hB.size)⟩
  · have KR := hide (fam_read _ 1 _ _ 0 (by decide) w3.heap.size rfl 0 w4 hf4 hon (by decide))
    have HF4 := hide hf4
    clear hf4
    go_wp2_with fail
    refine (unhide KR).mono ?_
    clear KR
    rintro e w5 ⟨v5, rfl, nv5, hb5⟩
    obtain ⟨b5, p5, rfl⟩ := nv5.shape
    have hB5 := (unhide HB4).trans (hb5.mono (unhide HB4).size)
    have hf5 := (unhide HF4).call hb5
    clear nv5
    have hX5 : ∀ x, x < w3.heap.size → x < w5.heap.size := fun x hx => Nat.lt_of_lt_of_le hx hB5.size
    have KC := hide (fam_clone _ 1 _ _ 0 (by decide) w3.heap.size rfl w5 hf5 hX5)
    have HB5 := hide hB5
    clear hf5 hX5 hB5
    go_wp2_with fail
    refine (unhide KC).mono ?_
    clear KC
    rintro e w6 ⟨rfl, hf6, hb6⟩
    have hB36 := (unhide HB5).trans (hb6.mono (unhide HB5).size)
    have hX6 : ∀ x, x < w3.heap.size → x < w6.heap.size := fun x hx => Nat.lt_of_lt_of_le hx hB36.size
    have hB6 := (unhide HB3).trans (hB36.mono (unhide HAS))
    have KD := fam_does _ 2 _ _ 0 (by decide) w3.heap.size rfl c w6 hf6 hX6 ((unhide HOK).call hB6) (fun hl => byt_far (unhide HOK).byt (unhide HAS) hl)
    rw [unhide HV] at KD
    have KD := hide KD
    have hw : w.heap.size < w3.heap.size := hs3
    obtain ⟨x0, x1, x2, x3⟩ := unhide HV3
    have y0 := cell_keep hB36 hw x0
    have y1 := cell_keep hB36 hw x1
    have y2 := cell_keep hB36 hw x2
    have y3 := cell_keep hB36 hw x3
    have HB36 := hide hB36
    clear hf6 hb6 hX6 hB36 hB6 x0 x1 x2 x3
    go_wp2_with fail
    refine (unhide KD).mono ?_
    clear KD y0 y1 y2 y3
    rintro e w7 ⟨rfl, hf7, hk7⟩
    have hB37 := (unhide HB36).trans (hk7.below (fun x hx => hx))
    have hB7 := (unhide HB3).trans (hB37.mono (unhide HAS))
    have HB37 := hide hB37
    have HB7 := hide hB7
    rw [show (upd (fun (_ : Nat) => d1) 1 d1 0).doE c.op c.file c.n c.b = d1.doE c.op c.file c.n c.b from rfl]
    generalize hde : d1.doE c.op c.file c.n c.b = de at *
    clear hk7 hB37 hB7
    by_cases g0 : de = 0
    · subst g0
      have hB := unhide HB7
      go_wp2_with (go_at_call 12; refine (awake_any _).mono ?_; rintro e w' ⟨rfl, hb⟩)
      go_ret
      exact ⟨rfl, hB.trans (hb.mono hB.size)⟩
    by_cases g50 : de = 50
    · subst g50
      have hB := unhide HB7
      go_wp2_with (go_at_call 12; refine (awake_any _).mono ?_; rintro e w' ⟨rfl, hb⟩)
      go_ret
      exact ⟨rfl, hB.trans (hb.mono hB.size)⟩
    · have t0 : (de == 0) = false := by simpa using g0
      have t50 : (de == 50) = false := by simpa using g50
      have hsame := refused_same d1 c (by rw [hde]; exact g0) (by rw [hde]; exact fun q => g50 q.1)
      have hfam : Fam (fun x => x < w3.heap.size) 2 w7 (fun i => match i with | 0 => w3.heap.size | _ => w5.heap.size) (fun _ => d1) := by
        refine hf7.cast (fun i hi => ?_) (fun i hi => ?_)
        · match i, hi with
          | 0, _ => rfl
          | 1, _ => rfl
        · match i, hi with
          | 0, _ => exact hsame
          | 1, _ => rfl
      clear hf7
      have KR := hide (fam_read _ 2 _ _ 0 (by decide) w3.heap.size rfl 0 w7 hfam hon (by decide))
      have HF7 := hide hfam
      clear hfam
      go_wp2_with fail
      refine (unhide KR).mono ?_
      clear KR
      rintro e w8 ⟨v8, rfl, nv8, hb8⟩
      obtain ⟨b8, p8, rfl⟩ := nv8.shape
      have hB8 := (unhide HB7).trans (hb8.mono (unhide HB7).size)
      have hf8 := (unhide HF7).call hb8
      clear nv8
      have hX8 : ∀ x, x < w3.heap.size → x < w8.heap.size := fun x hx => by
        have := (unhide HB37).size
        have := hb8.size
        omega
      have KF := hide (fam_files _ 2 _ _ 1 (by decide) w5.heap.size rfl w8 hf8 hX8)
      have HB8 := hide hB8
      clear hf8 hX8 hB8
      go_wp2_with fail
      refine (unhide KF).mono ?_
      clear KF
      rintro e wa ⟨va0, va1, va2, rfl, hfa, hka, ma0, ma1, ma2⟩
      have hBa := (unhide HB8).trans (hka.below (fun x hx => Nat.lt_of_lt_of_le hx (unhide HAS)))
      have hszA := hka.size
      have hXa : ∀ x, (x < w3.heap.size ∨ (w8.heap.size ≤ x ∧ x < wa.heap.size)) → x < wa.heap.size := fun x hx => by
        have := (unhide HB37).size
        have := hb8.size
        omega
      have KF := hide (fam_files _ 2 _ _ 0 (by decide) w3.heap.size rfl wa (hfa wa.heap.size) hXa)
      replace ma0 : New w8.heap.size wa va0 (d1.F 0) := ma0
      replace ma1 : New w8.heap.size wa va1 (d1.F 1) := ma1
      replace ma2 : New w8.heap.size wa va2 (d1.F 2) := ma2
      obtain ⟨b0, p0, rfl⟩ := ma0.shape
      obtain ⟨b1, p1, rfl⟩ := ma1.shape
      obtain ⟨b2, p2, rfl⟩ := ma2.shape
      have NA := hide (And.intro ma0 (And.intro ma1 ma2))
      have HBA := hide hBa
      clear hfa hka ma0 ma1 ma2 hBa hXa
      go_wp2_with fail
      refine (unhide KF).mono ?_
      clear KF
      rintro e wb ⟨vb0, vb1, vb2, rfl, hfb, hkb, mb0, mb1, mb2⟩
      have hBb := (unhide HBA).trans (hkb.below (fun x hx => .inl (Nat.lt_of_lt_of_le hx (unhide HAS))))
      replace mb0 : New wa.heap.size wb vb0 (d1.F 0) := mb0
      replace mb1 : New wa.heap.size wb vb1 (d1.F 1) := mb1
      replace mb2 : New wa.heap.size wb vb2 (d1.F 2) := mb2
      obtain ⟨e0, s0, rfl⟩ := mb0.shape
      obtain ⟨e1, s1, rfl⟩ := mb1.shape
      obtain ⟨e2, s2, rfl⟩ := mb2.shape
      have NN := hide (And.intro (And.intro (hkb.new (unhide NA).1 (fun x h1 h2 => .inr ⟨h1, h2⟩)).byt (And.intro (hkb.new (unhide NA).2.1 (fun x h1 h2 => .inr ⟨h1, h2⟩)).byt (hkb.new (unhide NA).2.2 (fun x h1 h2 => .inr ⟨h1, h2⟩)).byt)) (And.intro mb0.byt (And.intro mb1.byt mb2.byt)))
      have HBB := hide hBb
      clear hfb hkb mb0 mb1 mb2 hBb NA
      obtain ⟨W, hW⟩ : ∃ W, (wb.alloc (.cells #[.slice b0 (d1.F 0).length p0, .slice b1 (d1.F 1).length p1, .slice b2 (d1.F 2).length p2] 40)).alloc (.cells #[.slice e0 (d1.F 0).length s0, .slice e1 (d1.F 1).length s1, .slice e2 (d1.F 2).length s2] 40) = W := ⟨_, rfl⟩
      have HO := hide (out2 wb _ _ _ _ _ _ W hW)
      have HWE := hide hW
      clear hW
      go_wp2_with fail
      rw [unhide HWE]
      have HY : Hid ((Byt W (.slice b0 (d1.F 0).length p0) (d1.F 0) ∧ Byt W (.slice b1 (d1.F 1).length p1) (d1.F 1) ∧ Byt W (.slice b2 (d1.F 2).length p2) (d1.F 2)) ∧ (Byt W (.slice e0 (d1.F 0).length s0) (d1.F 0) ∧ Byt W (.slice e1 (d1.F 1).length s1) (d1.F 1) ∧ Byt W (.slice e2 (d1.F 2).length s2) (d1.F 2))) := by
        obtain ⟨⟨t0, t1, t2⟩, t3, t4, t5⟩ := unhide NN
        have q := (unhide HO).2.1
        exact ⟨⟨t0.call q, t1.call q, t2.call q⟩, t3.call q, t4.call q, t5.call q⟩
      have HBW := hide ((unhide HBB).trans ((unhide HO).2.1.mono (unhide HBB).size))
      clear HWE NN
      go_loopw [14, 54] (fun _ i wr => ∃ q : Nat, q ≤ 3 ∧ i = .int .i64 q ∧ Below W.heap.size W wr) (fun _ i _ => 3 - (intOf i).toNat)
      case atStart => exact ⟨0, by omega, rfl, Below.refl _ _⟩
      case round =>
        obtain ⟨q, hq, rfl, hbi⟩ := hrel
        obtain ⟨⟨oa, ob⟩, -, hz⟩ := unhide HO
        obtain ⟨⟨xa0, xa1, xa2⟩, -, -, -⟩ := oa.keep (hbi.mono (by omega))
        obtain ⟨⟨xb0, xb1, xb2⟩, -, -, -⟩ := ob.keep (hbi.mono hz)
        clear oa ob hz
        match q, hq with
        | 0, _ =>
          have HE := hide (p := ∀ n, Calls Try.prog 24 #[.slice b0 (d1.F 0).length p0, .slice e0 (d1.F 0).length s0] (wr.drewN n) fun e w' => e = .returned (.bool true) ∧ w' = wr.drewN n) (fun n =>
            (equal_same _ _ _ _ ((unhide HY).1.1.call (hbi.trans (Joins.below_draws _ _ n))) ((unhide HY).2.1.call (hbi.trans (Joins.below_draws _ _ n))) (unhide H256 0 (by decide))).mono (fun e w' h => ⟨h.1, h.2.symm⟩))
          have HBI := hide hbi
          clear hbi
          go_wp2_with fail
          go_quiet ((go_at_call 24; exact Calls.quiet_of_same (unhide HE _)))
          have hbi2 := (unhide HBI).trans (Joins.below_draws _ _ nq)
          go_wp2
          go_roundw
          case rel => exact ⟨1, by omega, by go_num, hbi2⟩
          case measure => simp [intOf]
        | 1, _ =>
          have HE := hide (p := ∀ n, Calls Try.prog 24 #[.slice b1 (d1.F 1).length p1, .slice e1 (d1.F 1).length s1] (wr.drewN n) fun e w' => e = .returned (.bool true) ∧ w' = wr.drewN n) (fun n =>
            (equal_same _ _ _ _ ((unhide HY).1.2.1.call (hbi.trans (Joins.below_draws _ _ n))) ((unhide HY).2.2.1.call (hbi.trans (Joins.below_draws _ _ n))) (unhide H256 1 (by decide))).mono (fun e w' h => ⟨h.1, h.2.symm⟩))
          have HBI := hide hbi
          clear hbi
          go_wp2_with fail
          go_quiet ((go_at_call 24; exact Calls.quiet_of_same (unhide HE _)))
          have hbi2 := (unhide HBI).trans (Joins.below_draws _ _ nq)
          go_wp2
          go_roundw
          case rel => exact ⟨2, by omega, by go_num, hbi2⟩
          case measure => simp [intOf]
        | 2, _ =>
          have HE := hide (p := ∀ n, Calls Try.prog 24 #[.slice b2 (d1.F 2).length p2, .slice e2 (d1.F 2).length s2] (wr.drewN n) fun e w' => e = .returned (.bool true) ∧ w' = wr.drewN n) (fun n =>
            (equal_same _ _ _ _ ((unhide HY).1.2.2.call (hbi.trans (Joins.below_draws _ _ n))) ((unhide HY).2.2.2.call (hbi.trans (Joins.below_draws _ _ n))) (unhide H256 2 (by decide))).mono (fun e w' h => ⟨h.1, h.2.symm⟩))
          have HBI := hide hbi
          clear hbi
          go_wp2_with fail
          go_quiet ((go_at_call 24; exact Calls.quiet_of_same (unhide HE _)))
          have hbi2 := (unhide HBI).trans (Joins.below_draws _ _ nq)
          go_wp2
          go_roundw
          case rel => exact ⟨3, by omega, by go_num, hbi2⟩
          case measure => simp [intOf]
        | 3, _ =>
          go_wp2_with (go_at_call 12; refine (awake_any _).mono ?_; rintro e w' ⟨rfl, hb⟩)
          go_ret
          have hB := (unhide HBW).trans (hbi.mono (unhide HBW).size)
          exact ⟨rfl, hB.trans (hb.mono hB.size)⟩

theorem dos_len {H : Type} {enc : TypeId × Value → H} {W : World} {base : Nat} {spare : Nat → Bool} {held : Bool} {a : Option Addr} {n cap : Nat} {d : DataW H} {p : List MemPlace}
    (h : DataW.Trod enc Try.prog W base spare held 22 (.slice a n cap) d p) : n = 0 ∨ ∃ elems sp, d = .slice elems sp ∧ elems.length = n := by
  obtain ⟨fuel, hf⟩ := h
  rcases Deep.open_slice Try.underlying22 hf with h0 | ⟨a', len, cap', m, n', D, Pl, hcs, hb, hl, hm, hmm, hx, _⟩
  · have hcs := h0.1
    simp [Value.cells] at hcs
    exact .inl hcs.2.1
  · simp [Value.cells] at hcs
    obtain ⟨rfl, rfl, rfl⟩ := hcs
    right
    injection hx with hx _
    exact ⟨_, _, hx, by simp⟩
theorem cells34 : Try.prog.cellsOf 34 = 4 := by kernel_rfl
set_option maxRecDepth 100000 in
theorem open_do {H : Type} {enc : TypeId × Value → H} {W : World} {b0 base : Nat} {spare : Nat → Bool} {held : Bool} {v : Value} {d : DataW H} {p : List MemPlace}
    (hv : Value.okWide Try.prog W .any b0 34 v) (h : DataW.Trod enc Try.prog W base spare held 34 v d p) :
    ∃ c : Cl, v = .agg #[.int .i64 c.op, .int .i64 c.file, .int .i64 c.n, c.v] ∧ ClOk W c := by
  obtain ⟨c0, c1, c2, c3, y0, y1, y2, y3, m, rfl, _, _, hy0, hy1, hy2, hy3⟩ := open_agg4 Try.underlying34 (by kernel_rfl) cells34 hv h
  obtain ⟨x0, e0, _, _⟩ := DataW.trod_int Try.underlying3 hy0
  obtain ⟨x1, e1, _, _⟩ := DataW.trod_int Try.underlying3 hy1
  obtain ⟨x2, e2, _, w2⟩ := DataW.trod_int Try.underlying3 hy2
  obtain ⟨l, hbyt, h256⟩ := bytes_of hy3
  simp at e0 e1 e2
  subst e0 e1 e2
  exact ⟨⟨x0, x1, x2, c3, l⟩, rfl, ⟨hbyt, (bounds_i64 w2).2, h256⟩⟩

set_option maxRecDepth 100000 in
theorem lifted (os : Os) (started : os.Started) (H : Type) (enc : TypeId × Value → H) :
    ReturnsInHanded {} Try.checked os 8 .any (Rows.diskRefusedSpec.pre6 enc Try.prog Try.f8 Rows.diskRefusedRow.domain false) (Rows.diskRefusedSpec.post enc Try.prog Try.f8 false true false false) := by
  refine returnsInHanded_of_change_sized (C := Try.checked) own started (by kernel_rfl) Try.func8
    (ChangeSpec.witness6 (enc := enc) (C := Try.checked) false ⟨#[], #[.slice none 0 0, .agg #[.int .i64 0, .int .i64 0, .int .i64 0, .slice none 0 0]], []⟩ 8 (by kernel_rfl) (by kernel_rfl) (by kernel_rfl) (by kernel_rfl)) ?_
  intro W base args ds gs before hval0 hW hcnd hsz0 _
  have hsz : (DataW.weightsEach Try.prog (Try.f8.params.toList ++ Rows.diskRefusedSpec.plain.varTypes Try.prog) (ds ++ gs)).all (· ≤ reachBytes) = true := hsz0
  have hval : ∀ (j : Nat) t v, Try.f8.params[j]? = some t → args[j]? = some v → Value.okWide Try.prog W .any base t v := hval0
  have hW' := hW
  obtain ⟨p, q, hA0, hV, rfl, hfz, hnd⟩ := hW
  have hA : DataW.TrodAll enc Try.prog W 0 (fun _ => true) true Try.f8.params.toList args.toList ds p := hA0
  rw [Try.params8] at hA hval hsz
  obtain ⟨v0, vs0, d0, ds0, p0, q0, hargs, rfl, rfl, h0, r0⟩ := trodAll_cons hA
  obtain ⟨v1, vs1, d1, ds1, p1, q1, rfl, rfl, rfl, h1, r1⟩ := trodAll_cons r0
  obtain ⟨rfl, rfl, rfl⟩ := trodAll_nil r1
  obtain rfl : args = #[v0, v1] := by cases args; simp_all
  obtain ⟨rfl, rfl⟩ := trodVars_none hV
  have lt0 : ∀ x ∈ p0, x.block < W.heap.size := by obtain ⟨m, hm⟩ := h0; exact DataW.trod_lt m _ _ _ hm
  have lt1 : ∀ x ∈ p1, x.block < W.heap.size := by obtain ⟨m, hm⟩ := h1; exact DataW.trod_lt m _ _ _ hm
  obtain ⟨a, L, cap, rfl, hc, hm, hL⟩ := open_dos (hval 0 22 v0 rfl rfl) h0
  obtain ⟨c, rfl, hok⟩ := open_do (hval 1 34 v1 rfl rfl) h1
  have hreach : L.length * 48 ≤ 140737488351232 := by
    rcases dos_len h0 with q | ⟨elems, sp, rfl, q⟩
    · rw [q]; decide
    · have := sized_slice hsz (j := 0) (t := 22) (e := 34) rfl rfl Try.underlying22
      rw [show Try.prog.bytesOf 34 = 48 by kernel_rfl] at this
      simp only [reachBytes] at this
      omega
  clear hA0 hval0
  refine (walk a L cap c W hL hc hm hreach hok).mono fun e W' ⟨he, bel⟩ => ?_
  subst he
  exact ⟨_, rfl, _, _, _, [], _, [], hW', trodAll_mk1 (shut_bool Try.underlying4 _), (trodAll_cons_mk (Below.trod laidOut (by kernel_rfl) (of_decide_eq_true (by kernel_rfl)) h0 bel lt0) (trodAll_cons_mk (Below.trod laidOut (by kernel_rfl) (of_decide_eq_true (by kernel_rfl)) h1 bel lt1) trodAll_mk0)), rfl, bel.frame _, fun h => by cases h⟩

theorem proved : Rows.DiskRefusedSaid :=
  OpenClaim.holds_of_wide 8 Try.f8 rfl rfl rfl rfl rfl rfl rfl ⟨rfl, rfl, rfl, rfl, rfl⟩ rfl rfl rfl rfl rfl (by kernel_rfl) Try.func8 (by kernel_rfl)
    (of_decide_eq_true (by kernel_rfl)) (by unfold Func.isWrapper; first | (rw [if_pos (by decide +kernel)]; kernel_rfl) | (rw [if_neg (by decide +kernel)]; exact ⟨rfl, rfl⟩))
    (fun os started H enc _ => lifted os started H enc)
#print axioms proved
end Go.Proofs.Ytadjgljimikodaa.refused
