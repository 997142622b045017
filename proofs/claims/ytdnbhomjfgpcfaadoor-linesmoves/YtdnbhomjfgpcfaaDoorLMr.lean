/- The document's Move. -/
import Derived.Test.YtdnbhomjfgpcfaaDoorLMm
namespace Go.Proofs.YtdnbhomjfgpcfaaDoor
set_option linter.unusedVariables false
set_option linter.unusedSimpArgs false
open Go.ChangeShapes Go.WideShapes Go.ChangeAt Go.RowKit Go.Joins Go.Deep

set_option pp.deepTerms true
set_option pp.maxSteps 1000000
theorem nsv_get {l : List Nat} {i a : Nat} (h : l[i]? = some a) : (nsv l)[i]? = some (.int .i64 (a : Int)) := by simp [nsv, h]
theorem stN_mono2 {cs : List (List UInt8)} {a b : Nat} (h : a ≤ b) (hb : b < (sts cs).length) : stN cs a ≤ stN cs b := by
  rcases Nat.lt_or_ge a b with h1 | h1
  · exact Nat.le_of_lt (stN_mono h1 hb)
  · rw [show a = b by omega]; exact Nat.le_refl _
theorem sub_next {cs : List (List UInt8)} {F E i : Nat} (h1 : F + i < E) (h2 : E ≤ cs.length) : ∃ c, cs[F + i]? = some c ∧ (sub cs F E).take (i + 1) = (sub cs F E).take i ++ [c] := by
  obtain ⟨c, hc⟩ : ∃ c, cs[F + i]? = some c := ⟨_, List.getElem?_eq_getElem (by omega)⟩
  refine ⟨c, hc, ?_⟩
  have h3 : (sub cs F E)[i]? = some c := by
    unfold sub
    rw [List.getElem?_take, if_pos (by omega), List.getElem?_drop]
    exact hc
  rw [List.take_add_one, h3]
  rfl
theorem toN_le : ∀ x : List At, At.toN x ≤ x.length
  | [] => Nat.le_refl _
  | .d :: x => by simp only [At.toN, List.length_cons]; have := toN_le x; omega
  | .k :: x => by simp only [At.toN, List.length_cons]; have := toN_le x; omega
  | .p c :: x => by simp only [At.toN, List.length_cons]; have := toN_le x; omega
theorem mv_len {n m F E T : Nat} {W : List (List UInt8)} (hm : n + 1 = m) (h1 : F ≤ E) (h2 : E ≤ n) (h3 : T ≤ n) : (wAts ((List.replicate m []).set T W) (mvD n F E)).length = n + W.length := by
  have hl := mvD_len (n := n) h1 h2
  have hp := wAts_put W T (mvD n F E) (by omega)
  rw [hl, hm] at hp
  rw [hp]
  simp only [List.length_append, List.length_map, List.length_take, List.length_drop, hl]
  omega
theorem mv_cps {m T : Nat} {W : List (List UInt8)} (h : Cps W) : ∀ q ∈ (List.replicate m ([] : List (List UInt8))).set T W, Cps q := fun q hq => by
  rcases List.mem_or_eq_of_mem_set hq with h1 | h1
  · rw [List.mem_replicate] at h1
    rw [h1.2]
    exact Cps.nil
  · rw [h1]; exact h
/-- what lies there while the lines are moved -/
structure MQ (w wr : World) (gP gD gW gb m n N sc : Nat) (O : List Nat) (P : List (List (List UInt8))) (D : List Bool) : Prop where
  wd : Wd wr w.heap.size (.slice (some ⟨gP, 0, none⟩) m m) (.slice (some ⟨gD, 0, none⟩) n n) P D
  bx : RowAt wr gW 100 [.slice (some ⟨gP, 0, none⟩) m m, .slice (some ⟨gD, 0, none⟩) n n]
  st : wr.ownsRow w.heap.size 3 1 (.slice (some ⟨gb, 0, none⟩) N sc) N (nsv O)
  pl : P.length = m
  dl : D.length = n
  bel : Below w.heap.size w wr
theorem MQ.start {w wA wm : World} {n m gP gD gW gb N sc : Nat} {O : List Nat} (h : Mkd wA wm n gP gD gW) (hb : Below w.heap.size w wA) (ho : wA.ownsRow w.heap.size 3 1 (.slice (some ⟨gb, 0, none⟩) N sc) N (nsv O)) (hm : n + 1 = m) : MQ w wm gP gD gW gb m n N sc O (List.replicate m []) (List.replicate n false) := by
  subst hm
  exact ⟨h.wd.base hb.size, h.x, own_call ho h.bel, by simp, by simp, hb.trans (h.bel.mono hb.size)⟩
theorem MQ.call {w wr wr' : World} {n m gP gD gW gb N sc : Nat} {O : List Nat} {P : List (List (List UInt8))} {D : List Bool} (h : MQ w wr gP gD gW gb m n N sc O P D) (hb : Below wr.heap.size wr wr') : MQ w wr' gP gD gW gb m n N sc O P D :=
  ⟨h.wd.call hb, h.bx.below hb h.bx.lt, own_call h.st hb, h.pl, h.dl, h.bel.trans (hb.mono h.bel.size)⟩
theorem MQ.put {w wr : World} {n m gP gD gW gb N sc : Nat} {O : List Nat} {P : List (List (List UInt8))} {D : List Bool} (h : MQ w wr gP gD gW gb m n N sc O P D) (T : Nat) (hT : T < m) (q : List (List UInt8)) : MQ w (wr.setCell ⟨gP, T, none⟩ (.string (txB q))) gP gD gW gb m n N sc O (P.set T q) D := by
  have hl := h.pl
  have wd := h.wd
  rw [← hl] at wd
  have h1 := wd.set_p T q (by omega)
  rw [hl] at h1
  obtain ⟨x1, -⟩ := h.wd.row_ne h.bx (by decide) (by decide)
  have e1 : gP ≠ gW := fun e => x1 (by rw [e]; rfl)
  have hP : w.heap.size ≤ gP := by
    obtain ⟨g, c, e, _, _, hB, _⟩ := h.wd.rd_p (List.getElem?_eq_getElem (show T < P.length by omega))
    cases e; exact hB
  have ho : Only (fun k => k = gP) wr (wr.setCell ⟨gP, T, none⟩ (.string (txB q))) := (Only.refl _ _).set gP T _ rfl
  exact ⟨h1, h.bx.only ho (fun e => e1 e.symm), own_only h.st ho (fun q' hq hp => own_ne h.st h.wd.p (by decide) q' hq (by rw [hp]; rfl)), by rw [List.length_set]; exact hl, h.dl, h.bel.setCell (by show w.heap.size ≤ gP; exact hP) _⟩
theorem MQ.step {w wr : World} {n m gP gD gW gb N sc : Nat} {O : List Nat} {P : List (List (List UInt8))} {D : List Bool} (h : MQ w wr gP gD gW gb m n N sc O P D) (i : Nat) (hi : i < n) (b : Bool) : MQ w (wr.setCell ⟨gD, i, none⟩ (.bool b)) gP gD gW gb m n N sc O P (D.set i b) := by
  have hl := h.dl
  have wd := h.wd
  rw [← hl] at wd
  have h1 := wd.set_d i b (by omega)
  rw [hl] at h1
  obtain ⟨-, x1⟩ := h.wd.row_ne h.bx (by decide) (by decide)
  have e1 : gD ≠ gW := fun e => x1 (by rw [e]; rfl)
  have hP : w.heap.size ≤ gD := by
    obtain ⟨g, c, e, _, _, hB, _⟩ := h.wd.rd_d (List.getElem?_eq_getElem (show i < D.length by omega))
    cases e; exact hB
  have ho : Only (fun k => k = gD) wr (wr.setCell ⟨gD, i, none⟩ (.bool b)) := (Only.refl _ _).set gD i _ rfl
  exact ⟨h1, h.bx.only ho (fun e => e1 e.symm), own_only h.st ho (fun q' hq hp => own_ne h.st h.wd.d (by decide) q' hq (by rw [hp]; rfl)), h.pl, by rw [List.length_set]; exact hl, h.bel.setCell (by show w.heap.size ≤ gD; exact hP) _⟩
theorem MQ.cs {w wr : World} {n m gP gD gW gb N sc : Nat} {O : List Nat} {P : List (List (List UInt8))} {D : List Bool} (h : MQ w wr gP gD gW gb m n N sc O P D) {i a : Nat} (hi : O[i]? = some a) : wr.cell? ⟨gb, i, none⟩ = some (.int .i64 (a : Int)) := by
  obtain ⟨g, c, e, hc, _⟩ := own_rd h.st (nsv_get hi)
  cases e
  exact hc
set_option maxRecDepth 100000 in
set_option maxHeartbeats 4000000 in
theorem rmove_ok {w : World} {B g : Nat} {vr : Value} {cs : List (List UInt8)} (h : RIx w B g vr cs) (hcs : Cps cs) (f k t : Int) (yf : -9223372036854775808 ≤ f) (xf : f ≤ 9223372036854775807) (yk : -9223372036854775808 ≤ k) (xk : k ≤ 9223372036854775807) (yt : -9223372036854775808 ≤ t) (xt : t ≤ 9223372036854775807) (hl : cs.length ≤ 1048576) : Calls Tryd.prog 38 #[.pointer (some ⟨g, 0, none⟩), .int .i64 f, .int .i64 k, .int .i64 t] w fun r w' => MovR cs f k t w r w' := by
  have KB := hide (begins_ok h (by omega))
  obtain ⟨ar, cr, rfl, hcell, hncr, hcm⟩ := h.one
  have HIX := hide h
  have HCS := hide hcs
  have HN := hide (Nat.le_trans (sts_len cs) (Nat.succ_le_succ hl))
  obtain ⟨n, hn⟩ : ∃ z, cs.length = z := ⟨_, rfl⟩
  have HNN := hide hn
  rw [hn] at hcell hncr hl
  clear h hn hcs
  go_enter Tryd.func38, Tryd.ntmps38
  go_wp2_with fail
  refine Calls.mono (unhide KB) ?_
  rintro r w1 h1
  obtain ⟨v, rfl, ho, hb⟩ := h1
  obtain ⟨sa, sc, rfl, hsc1, hsc2⟩ := own_sl ho
  have HO := hide ho
  have B1 := hide hb
  have hcell1 := kept hb hcell
  obtain ⟨N, hN⟩ : ∃ z, (sts cs).length = z := ⟨_, rfl⟩
  have HNS := hide hN
  have hNle : N ≤ 1048577 := by have := unhide HN; omega
  have hNs : N ≤ sc := by omega
  rw [hN] at HO ⊢
  clear ho hb KB hcell hsc1 hN
  cases hm : movB N f k t with
  | false =>
    have HF : Hid (movB (sts cs).length f k t = false) := hide (by rw [unhide HNS]; exact hm)
    have hcases : f < 0 ∨ 0 ≤ f ∧ (k < 0 ∨ 0 ≤ k ∧ ((N : Int) ≤ f ∨ f < (N : Int) ∧ ((N : Int) - 1 - f < k ∨ ¬ (N : Int) - 1 - f < k ∧ (t < 0 ∨ 0 ≤ t ∧ ((N : Int) ≤ t ∨ t < (N : Int) ∧ (f < t ∧ t < f + k)))))) := by
      unfold movB at hm
      simp at hm
      omega
    clear hm
    rcases hcases with hcases | ⟨ha, hcases⟩
    · go_wp2_with fail
      go_ret2
      exact ⟨.inl ⟨unhide HF, rfl⟩, unhide B1⟩
    rcases hcases with hcases | ⟨hb, hcases⟩
    · go_wp2_with fail
      go_ret2
      exact ⟨.inl ⟨unhide HF, rfl⟩, unhide B1⟩
    rcases hcases with hcases | ⟨hc, hcases⟩
    · go_wp2_with fail
      go_ret2
      exact ⟨.inl ⟨unhide HF, rfl⟩, unhide B1⟩
    rcases hcases with hcases | ⟨hd, hcases⟩
    · go_wp2_with fail
      go_ret2
      exact ⟨.inl ⟨unhide HF, rfl⟩, unhide B1⟩
    rcases hcases with hcases | ⟨he, hcases⟩
    · go_wp2_with fail
      go_ret2
      exact ⟨.inl ⟨unhide HF, rfl⟩, unhide B1⟩
    rcases hcases with hcases | ⟨hf_, hcases⟩
    · go_wp2_with fail
      go_ret2
      exact ⟨.inl ⟨unhide HF, rfl⟩, unhide B1⟩
    obtain ⟨hg, hh⟩ := hcases
    go_wp2_with fail
    go_ret2
    exact ⟨.inl ⟨unhide HF, rfl⟩, unhide B1⟩
  | true =>
    have hmv := movB_has hm
    have HM : Hid (movB (sts cs).length f k t = true) := hide (by rw [unhide HNS]; exact hm)
    obtain ⟨f, rfl⟩ : ∃ z : Nat, f = (z : Int) := ⟨f.toNat, by omega⟩
    obtain ⟨k, rfl⟩ : ∃ z : Nat, k = (z : Int) := ⟨k.toNat, by omega⟩
    obtain ⟨t, rfl⟩ : ∃ z : Nat, t = (z : Int) := ⟨t.toNat, by omega⟩
    have hf := stN_get (cs := cs) (i := f) (by rw [unhide HNS]; omega)
    have hfk := stN_get (cs := cs) (i := f + k) (by rw [unhide HNS]; omega)
    have ht := stN_get (cs := cs) (i := t) (by rw [unhide HNS]; omega)
    have hFE := stN_mono2 (cs := cs) (a := f) (b := f + k) (by omega) (by rw [unhide HNS]; omega)
    have hEn := stN_le (cs := cs) (i := f + k) (by rw [unhide HNS]; omega)
    have hTn := stN_le (cs := cs) (i := t) (by rw [unhide HNS]; omega)
    have hA : stN cs t ≤ stN cs f ∧ mvP cs f k t = stN cs t ∨ stN cs (f + k) ≤ stN cs t ∧ mvP cs f k t = stN cs t - (stN cs (f + k) - stN cs f) := by
      unfold mvP
      rcases hmv.2.2.2.2.2.2 with h9 | h9
      · exact .inl ⟨stN_mono2 (by omega) (by rw [unhide HNS]; omega), by rw [if_neg (by omega)]⟩
      · have h8 := stN_mono2 (cs := cs) (a := f + k) (b := t) (by omega) (by rw [unhide HNS]; omega)
        by_cases h7 : f < t
        · exact .inr ⟨h8, by rw [if_pos h7]⟩
        · exact .inl ⟨stN_mono2 (by omega) (by rw [unhide HNS]; omega), by rw [if_neg h7]⟩
    have HD := hide (mv_done (cs := cs) hFE hEn hTn hA)
    have HV : Hid (∀ (W : World) (v : Value) (L : List Pt) (w' : World), Below w.heap.size w W → OwnP w' W.heap.size v L → NfG 0 L → atomsL L = At.can (mvA cs (stN cs f) (stN cs (f + k)) (mvP cs f k t)) → Below W.heap.size W w' → MovR cs (f : Int) (k : Int) (t : Int) w (.returned (.tuple #[v, .int .i64 0])) w') := hide (fun W v L w' b1 o1 n1 a1 b2 => by
      have := b1.size
      exact ⟨.inr ⟨unhide HM, v, L, rfl, OwnP.base o1 b1.size, n1, by simpa using a1⟩, b1.trans (b2.mono b1.size)⟩)
    obtain ⟨F, hF⟩ : ∃ z, stN cs f = z := ⟨_, rfl⟩
    obtain ⟨E, hE⟩ : ∃ z, stN cs (f + k) = z := ⟨_, rfl⟩
    obtain ⟨T, hT⟩ : ∃ z, stN cs t = z := ⟨_, rfl⟩
    rw [hF] at hf
    rw [hE] at hfk
    rw [hT] at ht
    rw [hF, hE] at hFE HV
    rw [hE] at hEn
    rw [hT] at hTn
    rw [hF, hE, hT] at HD
    obtain ⟨A, hAA⟩ : ∃ z, mvP cs f k t = z := ⟨_, rfl⟩
    rw [hAA] at HV HD
    rw [unhide HNN] at hEn hTn
    obtain ⟨gb, cb, e, hcf, _, _, _⟩ := own_rd (unhide HO) (nsv_get hf)
    injection e with e1 _ e3
    subst e1 e3
    obtain ⟨gb2, cb2, e, hcfk, _, _, _⟩ := own_rd (unhide HO) (nsv_get hfk)
    injection e with e1 _ e3
    injection e1 with e1
    injection e1 with e1 _ _
    subst e1 e3
    obtain ⟨gb3, cb3, e, hct, _, _, _⟩ := own_rd (unhide HO) (nsv_get ht)
    injection e with e1 _ e3
    injection e1 with e1
    injection e1 with e1 _ _
    subst e1 e3
    have HC3 : Hid (w1.cell? ⟨gb, f, none⟩ = some (.int .i64 (F : Int)) ∧ w1.cell? ⟨gb, f + k, none⟩ = some (.int .i64 (E : Int)) ∧ w1.cell? ⟨gb, t, none⟩ = some (.int .i64 (T : Int))) := hide ⟨hcf, hcfk, hct⟩
    have F0 : (0 : Int) ≤ (F : Int) := by omega
    have FE : (F : Int) ≤ (E : Int) := by omega
    have EC : (E : Int) ≤ (cr : Int) := by omega
    have f0 : (0 : Int) ≤ (f : Int) := by omega
    have k0 : (0 : Int) ≤ (k : Int) := by omega
    have t0 : (0 : Int) ≤ (t : Int) := by omega
    have fN : (f : Int) < (N : Int) := by omega
    have kN : ¬ (N : Int) - 1 - (f : Int) < (k : Int) := by omega
    have tN : (t : Int) < (N : Int) := by omega
    obtain ⟨u, hu⟩ : ∃ z, f + k = z := ⟨_, rfl⟩
    have huI : (f : Int) + (k : Int) = (u : Int) := by omega
    rw [hu] at HC3
    have HST := hide (And.intro hf (And.intro hfk ht))
    rw [hu] at HST
    have HTF : Hid (t ≤ f ∨ u ≤ t) := hide (by have := hmv.2.2.2.2.2.2; omega)
    have d1 : decide ((f : Int) < 0) = false := decide_eq_false (by omega)
    have d2 : decide ((k : Int) < 0) = false := decide_eq_false (by omega)
    have d3 : decide (N ≤ f) = false := decide_eq_false (by omega)
    have d4 : decide ((N : Int) - 1 - (f : Int) < (k : Int)) = false := decide_eq_false (by omega)
    have d5 : decide ((t : Int) < 0) = false := decide_eq_false (by omega)
    have d6 : decide (N ≤ t) = false := decide_eq_false (by omega)
    clear hmv hA hf hfk ht hF hE hT hAA hm hcf hcfk hct hu
    have u0 : (0 : Int) ≤ (u : Int) := by omega
    have uN : (u : Int) < (N : Int) := by omega
    have hcf := (unhide HC3).1
    have hcfk := (unhide HC3).2.1
    have hct := (unhide HC3).2.2
    have HR1 := hide (own_call (unhide HIX).r (unhide B1))
    rw [unhide HNN] at HR1
    clear HIX
    rcases (unhide HR1).2 with ⟨e9, _⟩ | ⟨gr, cap, cur, e9, _, _, h3, _⟩
    · injection e9 with e1 e2 e3
      subst e1
      have n0 : n = 0 := e2
      subst e3
      have hF0 : F = 0 := by omega
      have hE0 : E = 0 := by omega
      have hT0 : T = 0 := by omega
      subst n0 hF0 hE0 hT0
      clear e2
      by_cases tf : t ≤ f
      · have tfI : decide (f < t) = false := decide_eq_false (by omega)
        go_wp2_with fail
        go_quiet (fail)
        have BD := hide (Go.Joins.below_draws w1.heap.size w1 nq)
        have B2 := hide ((unhide B1).trans ((unhide BD).mono (unhide B1).size))
        have HC2 := hide (And.intro (kept (unhide BD) (unhide HC3).1) (And.intro (kept (unhide BD) (unhide HC3).2.1) (kept (unhide BD) (unhide HC3).2.2)))
        have HR2 := hide (own_call (unhide HR1) (unhide BD))
        have HO2 := hide (own_call (unhide HO) (unhide BD))
        have hcell2 := kept (unhide BD) hcell1
        clear BD HC3 HO HR1 B1 hcell1
        obtain ⟨w2, hw2⟩ : ∃ z, w1.drewN nq = z := ⟨_, rfl⟩
        rw [hw2] at B2 HC2 HR2 HO2 hcell2 ⊢
        clear hw2 hcf hcfk hct
        go_wp2_with fail
        go_loopw [11, 77] (fun tv i wr => ∃ j : Nat, j ≤ 0 ∧ i = .int .i64 (j : Int) ∧ tv = .string (tb ((sub cs 0 0).take j)) ∧ Hid (Below w2.heap.size w2 wr)) (fun _ i _ => ((0 : Int) - intOf i).toNat)
        case atStart => exact ⟨0, by omega, by simp, rfl, hide (Below.refl _ _)⟩
        case round =>
          obtain ⟨j, hj, rfl, rfl, HB⟩ := hrel
          by_cases c1 : (j : Int) < (0 : Int)
          · exfalso
            omega
          · obtain rfl : j = 0 := by omega
            go_wp2_with fail
            have BW := hide ((unhide B2).trans ((unhide HB).mono (unhide B2).size))
            have HOW := hide (own_call (unhide HO2) (unhide HB))
            have hcellW := kept (unhide HB) hcell2
            clear HB HR2 HO2 HC2 B2 hcell2
            have HN40 : Hid (0 ≤ 1099511627776) := hide (by omega)
            refine reg_post (fun a_ w_ => ∃ gP gD gW, a_ = ({ tmps := #[.pointer (some ⟨g, 0, none⟩), .int .i64 (f : Int), .int .i64 (k : Int), .int .i64 (t : Int), undef, undef, undef, undef, .slice none 0 0, .int .i64 0, .slice (some ⟨gb, 0, none⟩) N sc, .string (tb []), undef, u13, .pointer (some ⟨gW, 0, none⟩), undef, .pointer (some ⟨g, 0, none⟩), .slice (some ⟨gb, 0, none⟩) N sc, .int .i64 (f : Int), .bool false, .bool false, .int .i64 (k : Int), .bool false, .bool false, .bool false, .int .i64 (f : Int), .slice (some ⟨gb, 0, none⟩) N sc, .int .i64 (N : Int), .bool false, .bool false, .bool false, .int .i64 (k : Int), .slice (some ⟨gb, 0, none⟩) N sc, .int .i64 (N : Int), .int .i64 ((N : Int) - 1), .int .i64 (f : Int), .int .i64 ((N : Int) - 1 - (f : Int)), .bool false, .bool false, .bool false, .int .i64 (t : Int), .bool false, .bool false, .bool false, .int .i64 (t : Int), .slice (some ⟨gb, 0, none⟩) N sc, .int .i64 (N : Int), .bool false, .bool false, .bool false, .int .i64 (t : Int), .int .i64 (f : Int), .bool false, .bool false, undef, undef, undef, undef, undef, .bool false, .bool false, .pointer (some ⟨g, 0, none⟩), .pointer (some ⟨g, 0, none⟩), .pointer (some ⟨g, 0, none⟩), .slice none 0 0, .slice (some ⟨gb, 0, none⟩) N sc, .int .i64 (f : Int), .pointer (some ⟨gb, f, none⟩), .int .i64 0, .slice (some ⟨gb, 0, none⟩) N sc, .int .i64 (f : Int), .int .i64 (k : Int), .int .i64 (u : Int), .pointer (some ⟨gb, u, none⟩), .int .i64 0, .slice none 0 0, .int .i64 0, .int .i64 0, .bool false, u79, u80, u81, u82, u83, u84, u85, .pointer (some ⟨g, 0, none⟩), .pointer (some ⟨g, 0, none⟩), .pointer (some ⟨g, 0, none⟩), .slice none 0 0, .int .i64 0, .int .i64 1, .slice (some ⟨gP, 0, none⟩) 1 1, .pointer (some ⟨g, 0, none⟩), .pointer (some ⟨g, 0, none⟩), .pointer (some ⟨g, 0, none⟩), .slice none 0 0, .int .i64 0, .slice (some ⟨gD, 0, none⟩) 0 0, .agg #[.slice (some ⟨gP, 0, none⟩) 1 1, .slice (some ⟨gD, 0, none⟩) 0 0], undef, undef, undef, undef, undef, undef, undef, undef, undef, undef, undef, undef, undef, undef, undef, undef, undef, undef, undef, undef, undef, undef, undef, undef, undef, undef, undef, undef], defers := [] } : Act) ∧ Mkd wr w_ 0 gP gD gW) ?_ ?_
            · refine wp_region_T (S := fun W => Below wr.heap.size wr W) (fun i => decide (i < 16)) (by kernel_rfl) ((Below.refl _ _).drew) (fun hHeld => ?_)
              refine wpAnyT_take (i := 0) (oi := { dst := some 86, op := Op.move (Operand.tmp 0), type := 28, pos := "ref.go:191", after := #[], guard := none }) (v := .pointer (some ⟨g, 0, none⟩)) rfl (by kernel_rfl) (by kernel_rfl) (by kernel_rfl) (by kernel_rfl) (fun _ _ _ h => by cases h.1) (Or.inl ⟨by rfl, ?_⟩) hHeld ?_
              · intro w hSw
                have xq := kept hSw hcellW
                first
                  | rfl
                  | (go_simp; done)
              try simp only [Act.put, List.setIfInBounds_toArray, List.set_cons_zero, List.set_cons_succ]
              refine wpAnyT_take (i := 1) (oi := { dst := some 87, op := Op.nilCheck (Operand.tmp 86), type := 0, pos := "ref.go:191", after := #[{ on := 0, ground := Ground.data }], guard := none }) (v := .pointer (some ⟨g, 0, none⟩)) rfl (by kernel_rfl) (by kernel_rfl) (by kernel_rfl) (by kernel_rfl) (fun _ _ _ h => by cases h.1) (Or.inl ⟨by rfl, ?_⟩) hHeld ?_
              · intro w hSw
                have xq := kept hSw hcellW
                first
                  | rfl
                  | (go_simp; done)
              try simp only [Act.put, List.setIfInBounds_toArray, List.set_cons_zero, List.set_cons_succ]
              refine wpAnyT_take (i := 2) (oi := { dst := some 88, op := Op.fieldAddr 42 (Operand.tmp 87) 0, type := 0, pos := "ref.go:191", after := #[{ on := 1, ground := Ground.data }], guard := none }) (v := .pointer (some ⟨g, 0, none⟩)) rfl (by kernel_rfl) (by kernel_rfl) (by kernel_rfl) (by kernel_rfl) (fun _ _ _ h => by cases h.1) (Or.inl ⟨by rfl, ?_⟩) hHeld ?_
              · intro w hSw
                have xq := kept hSw hcellW
                first
                  | rfl
                  | (go_simp; done)
              try simp only [Act.put, List.setIfInBounds_toArray, List.set_cons_zero, List.set_cons_succ]
              refine wpAnyT_take (i := 3) (oi := { dst := some 89, op := Op.load 40 (Operand.tmp 88), type := 40, pos := "ref.go:191", after := #[{ on := 2, ground := Ground.data }], guard := none }) (v := .slice none 0 0) rfl (by kernel_rfl) (by kernel_rfl) (by kernel_rfl) (by kernel_rfl) (fun _ _ _ h => by cases h.1) (Or.inl ⟨by rfl, ?_⟩) hHeld ?_
              · intro w hSw
                have xq := kept hSw hcellW
                first
                  | rfl
                  | (go_simp; done)
              try simp only [Act.put, List.setIfInBounds_toArray, List.set_cons_zero, List.set_cons_succ]
              refine wpAnyT_take (i := 4) (oi := { dst := some 90, op := Op.call { callee := Callee.builtin Builtin.len, args := #[Operand.tmp 89], argTypes := #[40] }, type := 3, pos := "ref.go:191", after := #[{ on := 3, ground := Ground.data }], guard := none }) (v := .int .i64 0) rfl (by kernel_rfl) (by kernel_rfl) (by kernel_rfl) (by kernel_rfl) (fun _ _ _ h => by cases h.1) (Or.inl ⟨by rfl, ?_⟩) hHeld ?_
              · intro w hSw
                have xq := kept hSw hcellW
                first
                  | rfl
                  | (go_simp; done)
              try simp only [Act.put, List.setIfInBounds_toArray, List.set_cons_zero, List.set_cons_succ]
              refine wpAnyT_take (i := 5) (oi := { dst := some 91, op := Op.binOp BinOp.add 3 (Operand.tmp 90) (Operand.const (Value.int IntKind.i64 1)) 3, type := 3, pos := "ref.go:191", after := #[{ on := 4, ground := Ground.data }], guard := none }) (v := .int .i64 1) rfl (by kernel_rfl) (by kernel_rfl) (by kernel_rfl) (by kernel_rfl) (fun _ _ _ h => by cases h.1) (Or.inl ⟨by rfl, ?_⟩) hHeld ?_
              · intro w hSw
                have xq := kept hSw hcellW
                first
                  | rfl
                  | (go_simp; done)
              try simp only [Act.put, List.setIfInBounds_toArray, List.set_cons_zero, List.set_cons_succ]
              refine wpAnyT_take (i := 7) (oi := { dst := some 93, op := Op.move (Operand.tmp 0), type := 28, pos := "ref.go:191", after := #[], guard := none }) (v := .pointer (some ⟨g, 0, none⟩)) rfl (by kernel_rfl) (by kernel_rfl) (by kernel_rfl) (by kernel_rfl) (fun _ _ _ h => by cases h.1) (Or.inl ⟨by rfl, ?_⟩) hHeld ?_
              · intro w hSw
                have xq := kept hSw hcellW
                first
                  | rfl
                  | (go_simp; done)
              try simp only [Act.put, List.setIfInBounds_toArray, List.set_cons_zero, List.set_cons_succ]
              refine wpAnyT_take (i := 8) (oi := { dst := some 94, op := Op.nilCheck (Operand.tmp 93), type := 0, pos := "ref.go:191", after := #[{ on := 7, ground := Ground.data }], guard := none }) (v := .pointer (some ⟨g, 0, none⟩)) rfl (by kernel_rfl) (by kernel_rfl) (by kernel_rfl) (by kernel_rfl) (fun _ _ _ h => by cases h.1) (Or.inl ⟨by rfl, ?_⟩) hHeld ?_
              · intro w hSw
                have xq := kept hSw hcellW
                first
                  | rfl
                  | (go_simp; done)
              try simp only [Act.put, List.setIfInBounds_toArray, List.set_cons_zero, List.set_cons_succ]
              refine wpAnyT_take (i := 9) (oi := { dst := some 95, op := Op.fieldAddr 42 (Operand.tmp 94) 0, type := 0, pos := "ref.go:191", after := #[{ on := 8, ground := Ground.data }], guard := none }) (v := .pointer (some ⟨g, 0, none⟩)) rfl (by kernel_rfl) (by kernel_rfl) (by kernel_rfl) (by kernel_rfl) (fun _ _ _ h => by cases h.1) (Or.inl ⟨by rfl, ?_⟩) hHeld ?_
              · intro w hSw
                have xq := kept hSw hcellW
                first
                  | rfl
                  | (go_simp; done)
              try simp only [Act.put, List.setIfInBounds_toArray, List.set_cons_zero, List.set_cons_succ]
              refine wpAnyT_take (i := 10) (oi := { dst := some 96, op := Op.load 40 (Operand.tmp 95), type := 40, pos := "ref.go:191", after := #[{ on := 9, ground := Ground.data }], guard := none }) (v := .slice none 0 0) rfl (by kernel_rfl) (by kernel_rfl) (by kernel_rfl) (by kernel_rfl) (fun _ _ _ h => by cases h.1) (Or.inl ⟨by rfl, ?_⟩) hHeld ?_
              · intro w hSw
                have xq := kept hSw hcellW
                first
                  | rfl
                  | (go_simp; done)
              try simp only [Act.put, List.setIfInBounds_toArray, List.set_cons_zero, List.set_cons_succ]
              refine wpAnyT_take (i := 11) (oi := { dst := some 97, op := Op.call { callee := Callee.builtin Builtin.len, args := #[Operand.tmp 96], argTypes := #[40] }, type := 3, pos := "ref.go:191", after := #[{ on := 10, ground := Ground.data }], guard := none }) (v := .int .i64 0) rfl (by kernel_rfl) (by kernel_rfl) (by kernel_rfl) (by kernel_rfl) (fun _ _ _ h => by cases h.1) (Or.inl ⟨by rfl, ?_⟩) hHeld ?_
              · intro w hSw
                have xq := kept hSw hcellW
                first
                  | rfl
                  | (go_simp; done)
              try simp only [Act.put, List.setIfInBounds_toArray, List.set_cons_zero, List.set_cons_succ]
              have HM0 := hide (Mk3.start wr 0)
              refine anyT_three (i := 6) (j := 12) (l := 14) (oi := { dst := some 92, op := Op.makeSlice 61 (Operand.tmp 91) (Operand.tmp 91), type := 61, pos := "ref.go:191", after := #[{ on := 5, ground := Ground.data }, { on := 5, ground := Ground.data }], guard := none }) (oj := { dst := some 98, op := Op.makeSlice 98 (Operand.tmp 97) (Operand.tmp 97), type := 98, pos := "ref.go:191", after := #[{ on := 11, ground := Ground.data }, { on := 11, ground := Ground.data }], guard := none }) (ol := { dst := some 14, op := Op.alloc 100, type := 0, pos := "ref.go:191", after := #[], guard := none }) (by kernel_rfl) rfl rfl rfl (fun K hK => ?_) (fun K hK => ?_) (fun K hK => ?_)
              · rw [if_pos (by rfl)]
                refine (unhide HM0).wpP _ _ rfl rfl rfl (unhide HN40) (fun gP wk1 hm => ?_)
                have HM1 := hide hm
                refine hK.out _ _ (fun _ => hm.bel) ?_
                clear hK K hm HM0
                try simp only [Act.put, List.setIfInBounds_toArray, List.set_cons_zero, List.set_cons_succ]
                refine anyU_two (i := 12) (j := 14) (oi := { dst := some 98, op := Op.makeSlice 98 (Operand.tmp 97) (Operand.tmp 97), type := 98, pos := "ref.go:191", after := #[{ on := 11, ground := Ground.data }, { on := 11, ground := Ground.data }], guard := none }) (oj := { dst := some 14, op := Op.alloc 100, type := 0, pos := "ref.go:191", after := #[], guard := none }) (by kernel_rfl) rfl rfl (fun K hK => ?_) (fun K hK => ?_)
                · rw [if_pos (by rfl)]
                  refine (unhide HM1).wpD _ _ rfl rfl rfl (unhide HN40) (fun gD wk2 hm => ?_)
                  have HM2 := hide hm
                  refine hK.out _ _ (fun _ => hm.bel) ?_
                  clear hK K hm HM1
                  try simp only [Act.put, List.setIfInBounds_toArray, List.set_cons_zero, List.set_cons_succ]
                  refine wpAnyT_take (i := 13) (oi := { dst := some 99, op := Op.build 100 #[(0, Operand.tmp 92), (1, Operand.tmp 98)], type := 100, pos := "ref.go:191", after := #[{ on := 6, ground := Ground.data }, { on := 12, ground := Ground.data }], guard := none }) (v := .agg #[.slice (some ⟨gP, 0, none⟩) 1 1, .slice (some ⟨gD, 0, none⟩) 0 0]) rfl (by kernel_rfl) (by kernel_rfl) (by kernel_rfl) (by kernel_rfl) (fun _ _ _ h => by cases h.1) (Or.inl ⟨by rfl, ?_⟩) (unhide HM2).bel ?_
                  · intro w hSw
                    first
                      | rfl
                      | (go_simp; done)
                  try simp only [Act.put, List.setIfInBounds_toArray, List.set_cons_zero, List.set_cons_succ]
                  refine wpAnyT_one (i := 14) (o := { dst := some 14, op := Op.alloc 100, type := 0, pos := "ref.go:191", after := #[], guard := none }) (by kernel_rfl) rfl (fun K hK => ?_)
                  rw [if_pos (by rfl)]
                  refine (unhide HM2).wpX rfl (fun gW wk3 hm => ?_)
                  have HM3 := hide hm
                  refine hK.out _ _ (fun _ => hm.bel) ?_
                  clear hK K hm HM2
                  try simp only [Act.put, List.setIfInBounds_toArray, List.set_cons_zero, List.set_cons_succ]
                  have HMS := hide ((unhide HM3).store (unhide HN40))
                  have fr0 := ((unhide HM3).x gW rfl).1.frozen 0
                  have fr1 := ((unhide HM3).x gW rfl).1.frozen 1
                  have xc0 : wk3.cell? ⟨gW, 0, none⟩ = some (.slice none 0 0) := ((unhide HM3).x gW rfl).1.cell 0
                  have xc1 : wk3.cell? ⟨gW, 1, none⟩ = some (.slice none 0 0) := ((unhide HM3).x gW rfl).1.cell 1
                  refine wpAnyT_one (i := 15) (o := { dst := none, op := Op.store 100 (Operand.tmp 14) (Operand.tmp 99), type := 0, pos := "ref.go:191", after := #[{ on := 14, ground := Ground.data }, { on := 13, ground := Ground.data }, { on := 0, ground := Ground.phase }, { on := 1, ground := Ground.phase }, { on := 2, ground := Ground.phase }, { on := 3, ground := Ground.phase }, { on := 4, ground := Ground.phase }, { on := 5, ground := Ground.phase }, { on := 6, ground := Ground.phase }, { on := 7, ground := Ground.phase }, { on := 8, ground := Ground.phase }, { on := 9, ground := Ground.phase }, { on := 10, ground := Ground.phase }, { on := 11, ground := Ground.phase }, { on := 12, ground := Ground.phase }, { on := 13, ground := Ground.phase }, { on := 14, ground := Ground.phase }], guard := none }) (by kernel_rfl) rfl (fun K hK => ?_)
                  go_simp
                  refine hK.out _ _ (fun _ => (unhide HMS).bel) ?_
                  clear hK K
                  try simp only [Act.put, List.setIfInBounds_toArray, List.set_cons_zero, List.set_cons_succ]
                  refine wpAnyT_done (by kernel_rfl) ?_ _
                  exact ⟨rfl, gP, gD, gW, rfl, unhide HMS⟩
                · rw [if_pos (by rfl)]
                  refine (unhide HM1).wpX rfl (fun gW wk2 hm => ?_)
                  have HM2 := hide hm
                  refine hK.out _ _ (fun _ => hm.bel) ?_
                  clear hK K hm HM1
                  try simp only [Act.put, List.setIfInBounds_toArray, List.set_cons_zero, List.set_cons_succ]
                  refine wpAnyT_one (i := 12) (o := { dst := some 98, op := Op.makeSlice 98 (Operand.tmp 97) (Operand.tmp 97), type := 98, pos := "ref.go:191", after := #[{ on := 11, ground := Ground.data }, { on := 11, ground := Ground.data }], guard := none }) (by kernel_rfl) rfl (fun K hK => ?_)
                  rw [if_pos (by rfl)]
                  refine (unhide HM2).wpD _ _ rfl rfl rfl (unhide HN40) (fun gD wk3 hm => ?_)
                  have HM3 := hide hm
                  refine hK.out _ _ (fun _ => hm.bel) ?_
                  clear hK K hm HM2
                  try simp only [Act.put, List.setIfInBounds_toArray, List.set_cons_zero, List.set_cons_succ]
                  refine wpAnyT_take (i := 13) (oi := { dst := some 99, op := Op.build 100 #[(0, Operand.tmp 92), (1, Operand.tmp 98)], type := 100, pos := "ref.go:191", after := #[{ on := 6, ground := Ground.data }, { on := 12, ground := Ground.data }], guard := none }) (v := .agg #[.slice (some ⟨gP, 0, none⟩) 1 1, .slice (some ⟨gD, 0, none⟩) 0 0]) rfl (by kernel_rfl) (by kernel_rfl) (by kernel_rfl) (by kernel_rfl) (fun _ _ _ h => by cases h.1) (Or.inl ⟨by rfl, ?_⟩) (unhide HM3).bel ?_
                  · intro w hSw
                    first
                      | rfl
                      | (go_simp; done)
                  try simp only [Act.put, List.setIfInBounds_toArray, List.set_cons_zero, List.set_cons_succ]
                  have HMS := hide ((unhide HM3).store (unhide HN40))
                  have fr0 := ((unhide HM3).x gW rfl).1.frozen 0
                  have fr1 := ((unhide HM3).x gW rfl).1.frozen 1
                  have xc0 : wk3.cell? ⟨gW, 0, none⟩ = some (.slice none 0 0) := ((unhide HM3).x gW rfl).1.cell 0
                  have xc1 : wk3.cell? ⟨gW, 1, none⟩ = some (.slice none 0 0) := ((unhide HM3).x gW rfl).1.cell 1
                  refine wpAnyT_one (i := 15) (o := { dst := none, op := Op.store 100 (Operand.tmp 14) (Operand.tmp 99), type := 0, pos := "ref.go:191", after := #[{ on := 14, ground := Ground.data }, { on := 13, ground := Ground.data }, { on := 0, ground := Ground.phase }, { on := 1, ground := Ground.phase }, { on := 2, ground := Ground.phase }, { on := 3, ground := Ground.phase }, { on := 4, ground := Ground.phase }, { on := 5, ground := Ground.phase }, { on := 6, ground := Ground.phase }, { on := 7, ground := Ground.phase }, { on := 8, ground := Ground.phase }, { on := 9, ground := Ground.phase }, { on := 10, ground := Ground.phase }, { on := 11, ground := Ground.phase }, { on := 12, ground := Ground.phase }, { on := 13, ground := Ground.phase }, { on := 14, ground := Ground.phase }], guard := none }) (by kernel_rfl) rfl (fun K hK => ?_)
                  go_simp
                  refine hK.out _ _ (fun _ => (unhide HMS).bel) ?_
                  clear hK K
                  try simp only [Act.put, List.setIfInBounds_toArray, List.set_cons_zero, List.set_cons_succ]
                  refine wpAnyT_done (by kernel_rfl) ?_ _
                  exact ⟨rfl, gP, gD, gW, rfl, unhide HMS⟩
              · rw [if_pos (by rfl)]
                refine (unhide HM0).wpD _ _ rfl rfl rfl (unhide HN40) (fun gD wk1 hm => ?_)
                have HM1 := hide hm
                refine hK.out _ _ (fun _ => hm.bel) ?_
                clear hK K hm HM0
                try simp only [Act.put, List.setIfInBounds_toArray, List.set_cons_zero, List.set_cons_succ]
                refine anyU_two (i := 6) (j := 14) (oi := { dst := some 92, op := Op.makeSlice 61 (Operand.tmp 91) (Operand.tmp 91), type := 61, pos := "ref.go:191", after := #[{ on := 5, ground := Ground.data }, { on := 5, ground := Ground.data }], guard := none }) (oj := { dst := some 14, op := Op.alloc 100, type := 0, pos := "ref.go:191", after := #[], guard := none }) (by kernel_rfl) rfl rfl (fun K hK => ?_) (fun K hK => ?_)
                · rw [if_pos (by rfl)]
                  refine (unhide HM1).wpP _ _ rfl rfl rfl (unhide HN40) (fun gP wk2 hm => ?_)
                  have HM2 := hide hm
                  refine hK.out _ _ (fun _ => hm.bel) ?_
                  clear hK K hm HM1
                  try simp only [Act.put, List.setIfInBounds_toArray, List.set_cons_zero, List.set_cons_succ]
                  refine wpAnyT_take (i := 13) (oi := { dst := some 99, op := Op.build 100 #[(0, Operand.tmp 92), (1, Operand.tmp 98)], type := 100, pos := "ref.go:191", after := #[{ on := 6, ground := Ground.data }, { on := 12, ground := Ground.data }], guard := none }) (v := .agg #[.slice (some ⟨gP, 0, none⟩) 1 1, .slice (some ⟨gD, 0, none⟩) 0 0]) rfl (by kernel_rfl) (by kernel_rfl) (by kernel_rfl) (by kernel_rfl) (fun _ _ _ h => by cases h.1) (Or.inl ⟨by rfl, ?_⟩) (unhide HM2).bel ?_
                  · intro w hSw
                    first
                      | rfl
                      | (go_simp; done)
                  try simp only [Act.put, List.setIfInBounds_toArray, List.set_cons_zero, List.set_cons_succ]
                  refine wpAnyT_one (i := 14) (o := { dst := some 14, op := Op.alloc 100, type := 0, pos := "ref.go:191", after := #[], guard := none }) (by kernel_rfl) rfl (fun K hK => ?_)
                  rw [if_pos (by rfl)]
                  refine (unhide HM2).wpX rfl (fun gW wk3 hm => ?_)
                  have HM3 := hide hm
                  refine hK.out _ _ (fun _ => hm.bel) ?_
                  clear hK K hm HM2
                  try simp only [Act.put, List.setIfInBounds_toArray, List.set_cons_zero, List.set_cons_succ]
                  have HMS := hide ((unhide HM3).store (unhide HN40))
                  have fr0 := ((unhide HM3).x gW rfl).1.frozen 0
                  have fr1 := ((unhide HM3).x gW rfl).1.frozen 1
                  have xc0 : wk3.cell? ⟨gW, 0, none⟩ = some (.slice none 0 0) := ((unhide HM3).x gW rfl).1.cell 0
                  have xc1 : wk3.cell? ⟨gW, 1, none⟩ = some (.slice none 0 0) := ((unhide HM3).x gW rfl).1.cell 1
                  refine wpAnyT_one (i := 15) (o := { dst := none, op := Op.store 100 (Operand.tmp 14) (Operand.tmp 99), type := 0, pos := "ref.go:191", after := #[{ on := 14, ground := Ground.data }, { on := 13, ground := Ground.data }, { on := 0, ground := Ground.phase }, { on := 1, ground := Ground.phase }, { on := 2, ground := Ground.phase }, { on := 3, ground := Ground.phase }, { on := 4, ground := Ground.phase }, { on := 5, ground := Ground.phase }, { on := 6, ground := Ground.phase }, { on := 7, ground := Ground.phase }, { on := 8, ground := Ground.phase }, { on := 9, ground := Ground.phase }, { on := 10, ground := Ground.phase }, { on := 11, ground := Ground.phase }, { on := 12, ground := Ground.phase }, { on := 13, ground := Ground.phase }, { on := 14, ground := Ground.phase }], guard := none }) (by kernel_rfl) rfl (fun K hK => ?_)
                  go_simp
                  refine hK.out _ _ (fun _ => (unhide HMS).bel) ?_
                  clear hK K
                  try simp only [Act.put, List.setIfInBounds_toArray, List.set_cons_zero, List.set_cons_succ]
                  refine wpAnyT_done (by kernel_rfl) ?_ _
                  exact ⟨rfl, gP, gD, gW, rfl, unhide HMS⟩
                · rw [if_pos (by rfl)]
                  refine (unhide HM1).wpX rfl (fun gW wk2 hm => ?_)
                  have HM2 := hide hm
                  refine hK.out _ _ (fun _ => hm.bel) ?_
                  clear hK K hm HM1
                  try simp only [Act.put, List.setIfInBounds_toArray, List.set_cons_zero, List.set_cons_succ]
                  refine wpAnyT_one (i := 6) (o := { dst := some 92, op := Op.makeSlice 61 (Operand.tmp 91) (Operand.tmp 91), type := 61, pos := "ref.go:191", after := #[{ on := 5, ground := Ground.data }, { on := 5, ground := Ground.data }], guard := none }) (by kernel_rfl) rfl (fun K hK => ?_)
                  rw [if_pos (by rfl)]
                  refine (unhide HM2).wpP _ _ rfl rfl rfl (unhide HN40) (fun gP wk3 hm => ?_)
                  have HM3 := hide hm
                  refine hK.out _ _ (fun _ => hm.bel) ?_
                  clear hK K hm HM2
                  try simp only [Act.put, List.setIfInBounds_toArray, List.set_cons_zero, List.set_cons_succ]
                  refine wpAnyT_take (i := 13) (oi := { dst := some 99, op := Op.build 100 #[(0, Operand.tmp 92), (1, Operand.tmp 98)], type := 100, pos := "ref.go:191", after := #[{ on := 6, ground := Ground.data }, { on := 12, ground := Ground.data }], guard := none }) (v := .agg #[.slice (some ⟨gP, 0, none⟩) 1 1, .slice (some ⟨gD, 0, none⟩) 0 0]) rfl (by kernel_rfl) (by kernel_rfl) (by kernel_rfl) (by kernel_rfl) (fun _ _ _ h => by cases h.1) (Or.inl ⟨by rfl, ?_⟩) (unhide HM3).bel ?_
                  · intro w hSw
                    first
                      | rfl
                      | (go_simp; done)
                  try simp only [Act.put, List.setIfInBounds_toArray, List.set_cons_zero, List.set_cons_succ]
                  have HMS := hide ((unhide HM3).store (unhide HN40))
                  have fr0 := ((unhide HM3).x gW rfl).1.frozen 0
                  have fr1 := ((unhide HM3).x gW rfl).1.frozen 1
                  have xc0 : wk3.cell? ⟨gW, 0, none⟩ = some (.slice none 0 0) := ((unhide HM3).x gW rfl).1.cell 0
                  have xc1 : wk3.cell? ⟨gW, 1, none⟩ = some (.slice none 0 0) := ((unhide HM3).x gW rfl).1.cell 1
                  refine wpAnyT_one (i := 15) (o := { dst := none, op := Op.store 100 (Operand.tmp 14) (Operand.tmp 99), type := 0, pos := "ref.go:191", after := #[{ on := 14, ground := Ground.data }, { on := 13, ground := Ground.data }, { on := 0, ground := Ground.phase }, { on := 1, ground := Ground.phase }, { on := 2, ground := Ground.phase }, { on := 3, ground := Ground.phase }, { on := 4, ground := Ground.phase }, { on := 5, ground := Ground.phase }, { on := 6, ground := Ground.phase }, { on := 7, ground := Ground.phase }, { on := 8, ground := Ground.phase }, { on := 9, ground := Ground.phase }, { on := 10, ground := Ground.phase }, { on := 11, ground := Ground.phase }, { on := 12, ground := Ground.phase }, { on := 13, ground := Ground.phase }, { on := 14, ground := Ground.phase }], guard := none }) (by kernel_rfl) rfl (fun K hK => ?_)
                  go_simp
                  refine hK.out _ _ (fun _ => (unhide HMS).bel) ?_
                  clear hK K
                  try simp only [Act.put, List.setIfInBounds_toArray, List.set_cons_zero, List.set_cons_succ]
                  refine wpAnyT_done (by kernel_rfl) ?_ _
                  exact ⟨rfl, gP, gD, gW, rfl, unhide HMS⟩
              · rw [if_pos (by rfl)]
                refine (unhide HM0).wpX rfl (fun gW wk1 hm => ?_)
                have HM1 := hide hm
                refine hK.out _ _ (fun _ => hm.bel) ?_
                clear hK K hm HM0
                try simp only [Act.put, List.setIfInBounds_toArray, List.set_cons_zero, List.set_cons_succ]
                refine anyU_two (i := 6) (j := 12) (oi := { dst := some 92, op := Op.makeSlice 61 (Operand.tmp 91) (Operand.tmp 91), type := 61, pos := "ref.go:191", after := #[{ on := 5, ground := Ground.data }, { on := 5, ground := Ground.data }], guard := none }) (oj := { dst := some 98, op := Op.makeSlice 98 (Operand.tmp 97) (Operand.tmp 97), type := 98, pos := "ref.go:191", after := #[{ on := 11, ground := Ground.data }, { on := 11, ground := Ground.data }], guard := none }) (by kernel_rfl) rfl rfl (fun K hK => ?_) (fun K hK => ?_)
                · rw [if_pos (by rfl)]
                  refine (unhide HM1).wpP _ _ rfl rfl rfl (unhide HN40) (fun gP wk2 hm => ?_)
                  have HM2 := hide hm
                  refine hK.out _ _ (fun _ => hm.bel) ?_
                  clear hK K hm HM1
                  try simp only [Act.put, List.setIfInBounds_toArray, List.set_cons_zero, List.set_cons_succ]
                  refine wpAnyT_one (i := 12) (o := { dst := some 98, op := Op.makeSlice 98 (Operand.tmp 97) (Operand.tmp 97), type := 98, pos := "ref.go:191", after := #[{ on := 11, ground := Ground.data }, { on := 11, ground := Ground.data }], guard := none }) (by kernel_rfl) rfl (fun K hK => ?_)
                  rw [if_pos (by rfl)]
                  refine (unhide HM2).wpD _ _ rfl rfl rfl (unhide HN40) (fun gD wk3 hm => ?_)
                  have HM3 := hide hm
                  refine hK.out _ _ (fun _ => hm.bel) ?_
                  clear hK K hm HM2
                  try simp only [Act.put, List.setIfInBounds_toArray, List.set_cons_zero, List.set_cons_succ]
                  refine wpAnyT_take (i := 13) (oi := { dst := some 99, op := Op.build 100 #[(0, Operand.tmp 92), (1, Operand.tmp 98)], type := 100, pos := "ref.go:191", after := #[{ on := 6, ground := Ground.data }, { on := 12, ground := Ground.data }], guard := none }) (v := .agg #[.slice (some ⟨gP, 0, none⟩) 1 1, .slice (some ⟨gD, 0, none⟩) 0 0]) rfl (by kernel_rfl) (by kernel_rfl) (by kernel_rfl) (by kernel_rfl) (fun _ _ _ h => by cases h.1) (Or.inl ⟨by rfl, ?_⟩) (unhide HM3).bel ?_
                  · intro w hSw
                    first
                      | rfl
                      | (go_simp; done)
                  try simp only [Act.put, List.setIfInBounds_toArray, List.set_cons_zero, List.set_cons_succ]
                  have HMS := hide ((unhide HM3).store (unhide HN40))
                  have fr0 := ((unhide HM3).x gW rfl).1.frozen 0
                  have fr1 := ((unhide HM3).x gW rfl).1.frozen 1
                  have xc0 : wk3.cell? ⟨gW, 0, none⟩ = some (.slice none 0 0) := ((unhide HM3).x gW rfl).1.cell 0
                  have xc1 : wk3.cell? ⟨gW, 1, none⟩ = some (.slice none 0 0) := ((unhide HM3).x gW rfl).1.cell 1
                  refine wpAnyT_one (i := 15) (o := { dst := none, op := Op.store 100 (Operand.tmp 14) (Operand.tmp 99), type := 0, pos := "ref.go:191", after := #[{ on := 14, ground := Ground.data }, { on := 13, ground := Ground.data }, { on := 0, ground := Ground.phase }, { on := 1, ground := Ground.phase }, { on := 2, ground := Ground.phase }, { on := 3, ground := Ground.phase }, { on := 4, ground := Ground.phase }, { on := 5, ground := Ground.phase }, { on := 6, ground := Ground.phase }, { on := 7, ground := Ground.phase }, { on := 8, ground := Ground.phase }, { on := 9, ground := Ground.phase }, { on := 10, ground := Ground.phase }, { on := 11, ground := Ground.phase }, { on := 12, ground := Ground.phase }, { on := 13, ground := Ground.phase }, { on := 14, ground := Ground.phase }], guard := none }) (by kernel_rfl) rfl (fun K hK => ?_)
                  go_simp
                  refine hK.out _ _ (fun _ => (unhide HMS).bel) ?_
                  clear hK K
                  try simp only [Act.put, List.setIfInBounds_toArray, List.set_cons_zero, List.set_cons_succ]
                  refine wpAnyT_done (by kernel_rfl) ?_ _
                  exact ⟨rfl, gP, gD, gW, rfl, unhide HMS⟩
                · rw [if_pos (by rfl)]
                  refine (unhide HM1).wpD _ _ rfl rfl rfl (unhide HN40) (fun gD wk2 hm => ?_)
                  have HM2 := hide hm
                  refine hK.out _ _ (fun _ => hm.bel) ?_
                  clear hK K hm HM1
                  try simp only [Act.put, List.setIfInBounds_toArray, List.set_cons_zero, List.set_cons_succ]
                  refine wpAnyT_one (i := 6) (o := { dst := some 92, op := Op.makeSlice 61 (Operand.tmp 91) (Operand.tmp 91), type := 61, pos := "ref.go:191", after := #[{ on := 5, ground := Ground.data }, { on := 5, ground := Ground.data }], guard := none }) (by kernel_rfl) rfl (fun K hK => ?_)
                  rw [if_pos (by rfl)]
                  refine (unhide HM2).wpP _ _ rfl rfl rfl (unhide HN40) (fun gP wk3 hm => ?_)
                  have HM3 := hide hm
                  refine hK.out _ _ (fun _ => hm.bel) ?_
                  clear hK K hm HM2
                  try simp only [Act.put, List.setIfInBounds_toArray, List.set_cons_zero, List.set_cons_succ]
                  refine wpAnyT_take (i := 13) (oi := { dst := some 99, op := Op.build 100 #[(0, Operand.tmp 92), (1, Operand.tmp 98)], type := 100, pos := "ref.go:191", after := #[{ on := 6, ground := Ground.data }, { on := 12, ground := Ground.data }], guard := none }) (v := .agg #[.slice (some ⟨gP, 0, none⟩) 1 1, .slice (some ⟨gD, 0, none⟩) 0 0]) rfl (by kernel_rfl) (by kernel_rfl) (by kernel_rfl) (by kernel_rfl) (fun _ _ _ h => by cases h.1) (Or.inl ⟨by rfl, ?_⟩) (unhide HM3).bel ?_
                  · intro w hSw
                    first
                      | rfl
                      | (go_simp; done)
                  try simp only [Act.put, List.setIfInBounds_toArray, List.set_cons_zero, List.set_cons_succ]
                  have HMS := hide ((unhide HM3).store (unhide HN40))
                  have fr0 := ((unhide HM3).x gW rfl).1.frozen 0
                  have fr1 := ((unhide HM3).x gW rfl).1.frozen 1
                  have xc0 : wk3.cell? ⟨gW, 0, none⟩ = some (.slice none 0 0) := ((unhide HM3).x gW rfl).1.cell 0
                  have xc1 : wk3.cell? ⟨gW, 1, none⟩ = some (.slice none 0 0) := ((unhide HM3).x gW rfl).1.cell 1
                  refine wpAnyT_one (i := 15) (o := { dst := none, op := Op.store 100 (Operand.tmp 14) (Operand.tmp 99), type := 0, pos := "ref.go:191", after := #[{ on := 14, ground := Ground.data }, { on := 13, ground := Ground.data }, { on := 0, ground := Ground.phase }, { on := 1, ground := Ground.phase }, { on := 2, ground := Ground.phase }, { on := 3, ground := Ground.phase }, { on := 4, ground := Ground.phase }, { on := 5, ground := Ground.phase }, { on := 6, ground := Ground.phase }, { on := 7, ground := Ground.phase }, { on := 8, ground := Ground.phase }, { on := 9, ground := Ground.phase }, { on := 10, ground := Ground.phase }, { on := 11, ground := Ground.phase }, { on := 12, ground := Ground.phase }, { on := 13, ground := Ground.phase }, { on := 14, ground := Ground.phase }], guard := none }) (by kernel_rfl) rfl (fun K hK => ?_)
                  go_simp
                  refine hK.out _ _ (fun _ => (unhide HMS).bel) ?_
                  clear hK K
                  try simp only [Act.put, List.setIfInBounds_toArray, List.set_cons_zero, List.set_cons_succ]
                  refine wpAnyT_done (by kernel_rfl) ?_ _
                  exact ⟨rfl, gP, gD, gW, rfl, unhide HMS⟩
            rintro _ wm ⟨gP, gD, gW, rfl, hmk⟩
            have HMK := hide hmk
            clear hmk
            dsimp only
            have hm : 0 + 1 = 1 := rfl
            have HQ0 := hide (MQ.start (unhide HMK) (unhide BW) (unhide HOW) hm)
            have HMM := hide hm
            have Tm : (0 : Int) < (1 : Int) := by omega
            have T0 : (0 : Int) ≤ (0 : Int) := by omega
            clear HMK BW HOW hcellW hm 
            have HQD := hide ((unhide HQ0).call (Below.refl _ _).drew)
            have hxw0 : wm.drew.cell? ⟨gW, 0, none⟩ = some (.slice (some ⟨gP, 0, none⟩) 1 1) := (unhide HQD).bx.cell 0
            have hxt : wm.drew.cell? ⟨gb, t, none⟩ = some (.int .i64 (0 : Int)) := (unhide HQD).cs (unhide HST).2.2
            have HC9 := hide ((unhide HQD).wd.cp (i := 0) (q := []) (show (List.replicate 1 ([] : List (List UInt8)))[0]? = some [] by rw [List.getElem?_replicate, if_pos (by omega)]))
            have hpc := (unhide HC9).1
            have hpf := (unhide HC9).2
            have HQ1 := hide ((unhide HQD).put 0 (by omega) (sub cs 0 0))
            have hts : txB (sub cs 0 0) = tb [] := by unfold sub; rfl
            rw [hts] at HQ1
            clear hts
            go_wp2_with fail
            refine wp_region_T (S := fun W => Below wm.drew.heap.size wm.drew W) (fun i => decide (i < 8)) (by kernel_rfl) (Below.refl _ _) (fun hHeld => ?_)
            refine wpAnyT_take (i := 0) (oi := { dst := some 100, op := Op.fieldAddr 100 (Operand.tmp 14) 0, type := 0, pos := "ref.go:192", after := #[], guard := none }) (v := .pointer (some ⟨gW, 0, none⟩)) rfl (by kernel_rfl) (by kernel_rfl) (by kernel_rfl) (by kernel_rfl) (fun _ _ _ h => h) (Or.inl ⟨by rfl, ?_⟩) hHeld ?_
            · intro w hSw
              have xa := kept hSw hxw0
              have xt := kept hSw hxt
              first
                | rfl
                | (go_simp; done)
            try simp only [Act.put, List.setIfInBounds_toArray, List.set_cons_zero, List.set_cons_succ]
            refine wpAnyT_take (i := 1) (oi := { dst := some 101, op := Op.load 61 (Operand.tmp 100), type := 61, pos := "ref.go:192", after := #[{ on := 0, ground := Ground.data }], guard := none }) (v := .slice (some ⟨gP, 0, none⟩) 1 1) rfl (by kernel_rfl) (by kernel_rfl) (by kernel_rfl) (by kernel_rfl) (fun _ _ _ h => h) (Or.inl ⟨by rfl, ?_⟩) hHeld ?_
            · intro w hSw
              have xa := kept hSw hxw0
              have xt := kept hSw hxt
              first
                | rfl
                | (go_simp; done)
            try simp only [Act.put, List.setIfInBounds_toArray, List.set_cons_zero, List.set_cons_succ]
            refine wpAnyT_take (i := 2) (oi := { dst := some 102, op := Op.move (Operand.tmp 10), type := 38, pos := "ref.go:192", after := #[], guard := none }) (v := .slice (some ⟨gb, 0, none⟩) N sc) rfl (by kernel_rfl) (by kernel_rfl) (by kernel_rfl) (by kernel_rfl) (fun _ _ _ h => h) (Or.inl ⟨by rfl, ?_⟩) hHeld ?_
            · intro w hSw
              have xa := kept hSw hxw0
              have xt := kept hSw hxt
              first
                | rfl
                | (go_simp; done)
            try simp only [Act.put, List.setIfInBounds_toArray, List.set_cons_zero, List.set_cons_succ]
            refine wpAnyT_take (i := 3) (oi := { dst := some 103, op := Op.move (Operand.tmp 3), type := 3, pos := "ref.go:192", after := #[], guard := none }) (v := .int .i64 (t : Int)) rfl (by kernel_rfl) (by kernel_rfl) (by kernel_rfl) (by kernel_rfl) (fun _ _ _ h => h) (Or.inl ⟨by rfl, ?_⟩) hHeld ?_
            · intro w hSw
              have xa := kept hSw hxw0
              have xt := kept hSw hxt
              first
                | rfl
                | (go_simp; done)
            try simp only [Act.put, List.setIfInBounds_toArray, List.set_cons_zero, List.set_cons_succ]
            refine wpAnyT_take (i := 4) (oi := { dst := some 104, op := Op.indexAddr 38 (Operand.tmp 102) (Operand.tmp 103), type := 0, pos := "ref.go:192", after := #[{ on := 2, ground := Ground.data }, { on := 3, ground := Ground.data }], guard := none }) (v := .pointer (some ⟨gb, t, none⟩)) rfl (by kernel_rfl) (by kernel_rfl) (by kernel_rfl) (by kernel_rfl) (fun _ _ _ h => h) (Or.inl ⟨by rfl, ?_⟩) hHeld ?_
            · intro w hSw
              have xa := kept hSw hxw0
              have xt := kept hSw hxt
              first
                | rfl
                | (go_simp; done)
            try simp only [Act.put, List.setIfInBounds_toArray, List.set_cons_zero, List.set_cons_succ]
            refine wpAnyT_take (i := 5) (oi := { dst := some 105, op := Op.load 3 (Operand.tmp 104), type := 3, pos := "ref.go:192", after := #[{ on := 4, ground := Ground.data }], guard := none }) (v := .int .i64 (0 : Int)) rfl (by kernel_rfl) (by kernel_rfl) (by kernel_rfl) (by kernel_rfl) (fun _ _ _ h => h) (Or.inl ⟨by rfl, ?_⟩) hHeld ?_
            · intro w hSw
              have xa := kept hSw hxw0
              have xt := kept hSw hxt
              first
                | rfl
                | (go_simp; done)
            try simp only [Act.put, List.setIfInBounds_toArray, List.set_cons_zero, List.set_cons_succ]
            refine wpAnyT_take (i := 6) (oi := { dst := some 106, op := Op.move (Operand.tmp 11), type := 9, pos := "ref.go:192", after := #[], guard := none }) (v := .string (tb [])) rfl (by kernel_rfl) (by kernel_rfl) (by kernel_rfl) (by kernel_rfl) (fun _ _ _ h => h) (Or.inl ⟨by rfl, ?_⟩) hHeld ?_
            · intro w hSw
              have xa := kept hSw hxw0
              have xt := kept hSw hxt
              first
                | rfl
                | (go_simp; done)
            try simp only [Act.put, List.setIfInBounds_toArray, List.set_cons_zero, List.set_cons_succ]
            refine wpAnyT_take (i := 7) (oi := { dst := some 107, op := Op.indexAddr 61 (Operand.tmp 101) (Operand.tmp 105), type := 0, pos := "ref.go:192", after := #[{ on := 1, ground := Ground.data }, { on := 5, ground := Ground.data }, { on := 0, ground := Ground.phase }, { on := 1, ground := Ground.phase }, { on := 2, ground := Ground.phase }, { on := 3, ground := Ground.phase }, { on := 4, ground := Ground.phase }, { on := 5, ground := Ground.phase }, { on := 6, ground := Ground.phase }], guard := none }) (v := .pointer (some ⟨gP, 0, none⟩)) rfl (by kernel_rfl) (by kernel_rfl) (by kernel_rfl) (by kernel_rfl) (fun _ _ _ h => h) (Or.inl ⟨by rfl, ?_⟩) hHeld ?_
            · intro w hSw
              have xa := kept hSw hxw0
              have xt := kept hSw hxt
              first
                | rfl
                | (go_simp; done)
            try simp only [Act.put, List.setIfInBounds_toArray, List.set_cons_zero, List.set_cons_succ]
            refine wpAnyT_one (i := 8) (o := { dst := none, op := Op.store 9 (Operand.tmp 107) (Operand.tmp 106), type := 0, pos := "ref.go:192", after := #[{ on := 7, ground := Ground.data }, { on := 6, ground := Ground.data }, { on := 0, ground := Ground.phase }, { on := 1, ground := Ground.phase }, { on := 2, ground := Ground.phase }, { on := 3, ground := Ground.phase }, { on := 4, ground := Ground.phase }, { on := 5, ground := Ground.phase }, { on := 6, ground := Ground.phase }], guard := none }) (by kernel_rfl) rfl (fun K hK => ?_)
            go_simp
            refine hK.out _ _ (fun h => by cases h) ?_
            clear hK K
            try simp only [Act.put, List.setIfInBounds_toArray, List.set_cons_zero, List.set_cons_succ]
            refine wpAnyT_done (by kernel_rfl) ?_ _
            obtain ⟨wq, hwq⟩ : ∃ z, (wm.setCell ⟨gP, 0, none⟩ (.string (tb []))).drew = z := ⟨_, rfl⟩
            have HQ1 : Hid (MQ w wq gP gD gW gb 1 0 N sc (sts cs) ((List.replicate 1 []).set 0 (sub cs 0 0)) (List.replicate 0 false)) := by rw [← hwq]; exact HQ1
            rw [hwq]
            clear hwq hxw0 hxt hpc hpf HC9 HQ0 HQD
            have hcf := (unhide HQ1).cs (unhide HST).1
            go_wp2_with fail
            go_loopw [15] (fun iv wr => ∃ i : Nat, 0 ≤ i ∧ i ≤ 0 ∧ iv = .int .i64 (i : Int) ∧ Hid (MQ w wr gP gD gW gb 1 0 N sc (sts cs) ((List.replicate 1 []).set 0 (sub cs 0 0)) (mvD 0 0 i))) (fun iv _ => ((0 : Int) - intOf iv).toNat)
            case atStart => exact ⟨0, Nat.le_refl _, by omega, rfl, hide (by rw [mvD_zero (by omega)]; exact unhide HQ1)⟩
            case round =>
              clear HQ1 hcf
              obtain ⟨i, hi1, hi2, rfl, HQ⟩ := hrel
              have hcu := (unhide HQ).cs (unhide HST).2.1
              by_cases c1 : (i : Int) < (0 : Int)
              · exfalso
                omega
              · obtain rfl : i = 0 := by omega
                have HH := hide (show Cps (sub cs 0 0) from fun d hd => unhide HCS d (List.mem_of_mem_drop (List.mem_of_mem_take hd)))
                have KC := hide (close_any wr (unhide HQ).wd (by rw [(unhide HQ).pl, (unhide HQ).dl]) (mv_cps (unhide HH)) (by rw [mv_len (show 0 + 1 = 1 from rfl) (by omega) (by omega) (by omega), sub_len (by omega) (by rw [unhide HNN]; omega)]; omega) (Nat.le_trans (toN_le _) (by rw [mv_len (show 0 + 1 = 1 from rfl) (by omega) (by omega) (by omega), sub_len (by omega) (by rw [unhide HNN]; omega)]; omega)) (by rw [(unhide HQ).dl]; omega))
                have HB9 := hide (unhide HQ).bel
                have hx0 : wr.cell? ⟨gW, 0, none⟩ = some (.slice (some ⟨gP, 0, none⟩) 1 1) := (unhide HQ).bx.cell 0
                have hx1 : wr.cell? ⟨gW, 1, none⟩ = some (.slice (some ⟨gD, 0, none⟩) 0 0) := (unhide HQ).bx.cell 1
                rw [unhide HNN] at HD
                go_wp2_with fail
                refine Calls.mono (unhide KC) ?_
                rintro r w9 ⟨v, L, rfl, o9, n9, a9, b9⟩
                have HR9 := hide ((unhide HV) _ v L w9 (unhide HB9) o9 n9 (a9.trans (unhide HD)) b9)
                clear o9 n9 a9 b9 KC
                go_wp2_with fail
                go_ret2
                exact unhide HR9
      · have tfI : decide (f < t) = true := decide_eq_true (by omega)
        have tfu : decide (t < u) = false := decide_eq_false (by have := unhide HTF; omega)
        go_wp2_with fail
        go_quiet (fail)
        have BD := hide (Go.Joins.below_draws w1.heap.size w1 nq)
        have B2 := hide ((unhide B1).trans ((unhide BD).mono (unhide B1).size))
        have HC2 := hide (And.intro (kept (unhide BD) (unhide HC3).1) (And.intro (kept (unhide BD) (unhide HC3).2.1) (kept (unhide BD) (unhide HC3).2.2)))
        have HR2 := hide (own_call (unhide HR1) (unhide BD))
        have HO2 := hide (own_call (unhide HO) (unhide BD))
        have hcell2 := kept (unhide BD) hcell1
        clear BD HC3 HO HR1 B1 hcell1
        obtain ⟨w2, hw2⟩ : ∃ z, w1.drewN nq = z := ⟨_, rfl⟩
        rw [hw2] at B2 HC2 HR2 HO2 hcell2 ⊢
        clear hw2 hcf hcfk hct
        go_wp2_with fail
        go_loopw [11, 77] (fun tv i wr => ∃ j : Nat, j ≤ 0 ∧ i = .int .i64 (j : Int) ∧ tv = .string (tb ((sub cs 0 0).take j)) ∧ Hid (Below w2.heap.size w2 wr)) (fun _ i _ => ((0 : Int) - intOf i).toNat)
        case atStart => exact ⟨0, by omega, by simp, rfl, hide (Below.refl _ _)⟩
        case round =>
          obtain ⟨j, hj, rfl, rfl, HB⟩ := hrel
          by_cases c1 : (j : Int) < (0 : Int)
          · exfalso
            omega
          · obtain rfl : j = 0 := by omega
            go_wp2_with fail
            have BW := hide ((unhide B2).trans ((unhide HB).mono (unhide B2).size))
            have HOW := hide (own_call (unhide HO2) (unhide HB))
            have hcellW := kept (unhide HB) hcell2
            clear HB HR2 HO2 HC2 B2 hcell2
            have HN40 : Hid (0 ≤ 1099511627776) := hide (by omega)
            refine reg_post (fun a_ w_ => ∃ gP gD gW, a_ = ({ tmps := #[.pointer (some ⟨g, 0, none⟩), .int .i64 (f : Int), .int .i64 (k : Int), .int .i64 (t : Int), undef, undef, undef, undef, .slice none 0 0, .int .i64 0, .slice (some ⟨gb, 0, none⟩) N sc, .string (tb []), undef, u13, .pointer (some ⟨gW, 0, none⟩), undef, .pointer (some ⟨g, 0, none⟩), .slice (some ⟨gb, 0, none⟩) N sc, .int .i64 (f : Int), .bool false, .bool false, .int .i64 (k : Int), .bool false, .bool false, .bool false, .int .i64 (f : Int), .slice (some ⟨gb, 0, none⟩) N sc, .int .i64 (N : Int), .bool false, .bool false, .bool false, .int .i64 (k : Int), .slice (some ⟨gb, 0, none⟩) N sc, .int .i64 (N : Int), .int .i64 ((N : Int) - 1), .int .i64 (f : Int), .int .i64 ((N : Int) - 1 - (f : Int)), .bool false, .bool false, .bool false, .int .i64 (t : Int), .bool false, .bool false, .bool false, .int .i64 (t : Int), .slice (some ⟨gb, 0, none⟩) N sc, .int .i64 (N : Int), .bool false, .bool false, .bool false, .int .i64 (t : Int), .int .i64 (f : Int), .bool true, .bool true, .int .i64 (t : Int), .int .i64 (f : Int), .int .i64 (k : Int), .int .i64 (u : Int), .bool false, .bool false, .bool false, .pointer (some ⟨g, 0, none⟩), .pointer (some ⟨g, 0, none⟩), .pointer (some ⟨g, 0, none⟩), .slice none 0 0, .slice (some ⟨gb, 0, none⟩) N sc, .int .i64 (f : Int), .pointer (some ⟨gb, f, none⟩), .int .i64 0, .slice (some ⟨gb, 0, none⟩) N sc, .int .i64 (f : Int), .int .i64 (k : Int), .int .i64 (u : Int), .pointer (some ⟨gb, u, none⟩), .int .i64 0, .slice none 0 0, .int .i64 0, .int .i64 0, .bool false, u79, u80, u81, u82, u83, u84, u85, .pointer (some ⟨g, 0, none⟩), .pointer (some ⟨g, 0, none⟩), .pointer (some ⟨g, 0, none⟩), .slice none 0 0, .int .i64 0, .int .i64 1, .slice (some ⟨gP, 0, none⟩) 1 1, .pointer (some ⟨g, 0, none⟩), .pointer (some ⟨g, 0, none⟩), .pointer (some ⟨g, 0, none⟩), .slice none 0 0, .int .i64 0, .slice (some ⟨gD, 0, none⟩) 0 0, .agg #[.slice (some ⟨gP, 0, none⟩) 1 1, .slice (some ⟨gD, 0, none⟩) 0 0], undef, undef, undef, undef, undef, undef, undef, undef, undef, undef, undef, undef, undef, undef, undef, undef, undef, undef, undef, undef, undef, undef, undef, undef, undef, undef, undef, undef], defers := [] } : Act) ∧ Mkd wr w_ 0 gP gD gW) ?_ ?_
            · refine wp_region_T (S := fun W => Below wr.heap.size wr W) (fun i => decide (i < 16)) (by kernel_rfl) ((Below.refl _ _).drew) (fun hHeld => ?_)
              refine wpAnyT_take (i := 0) (oi := { dst := some 86, op := Op.move (Operand.tmp 0), type := 28, pos := "ref.go:191", after := #[], guard := none }) (v := .pointer (some ⟨g, 0, none⟩)) rfl (by kernel_rfl) (by kernel_rfl) (by kernel_rfl) (by kernel_rfl) (fun _ _ _ h => by cases h.1) (Or.inl ⟨by rfl, ?_⟩) hHeld ?_
              · intro w hSw
                have xq := kept hSw hcellW
                first
                  | rfl
                  | (go_simp; done)
              try simp only [Act.put, List.setIfInBounds_toArray, List.set_cons_zero, List.set_cons_succ]
              refine wpAnyT_take (i := 1) (oi := { dst := some 87, op := Op.nilCheck (Operand.tmp 86), type := 0, pos := "ref.go:191", after := #[{ on := 0, ground := Ground.data }], guard := none }) (v := .pointer (some ⟨g, 0, none⟩)) rfl (by kernel_rfl) (by kernel_rfl) (by kernel_rfl) (by kernel_rfl) (fun _ _ _ h => by cases h.1) (Or.inl ⟨by rfl, ?_⟩) hHeld ?_
              · intro w hSw
                have xq := kept hSw hcellW
                first
                  | rfl
                  | (go_simp; done)
              try simp only [Act.put, List.setIfInBounds_toArray, List.set_cons_zero, List.set_cons_succ]
              refine wpAnyT_take (i := 2) (oi := { dst := some 88, op := Op.fieldAddr 42 (Operand.tmp 87) 0, type := 0, pos := "ref.go:191", after := #[{ on := 1, ground := Ground.data }], guard := none }) (v := .pointer (some ⟨g, 0, none⟩)) rfl (by kernel_rfl) (by kernel_rfl) (by kernel_rfl) (by kernel_rfl) (fun _ _ _ h => by cases h.1) (Or.inl ⟨by rfl, ?_⟩) hHeld ?_
              · intro w hSw
                have xq := kept hSw hcellW
                first
                  | rfl
                  | (go_simp; done)
              try simp only [Act.put, List.setIfInBounds_toArray, List.set_cons_zero, List.set_cons_succ]
              refine wpAnyT_take (i := 3) (oi := { dst := some 89, op := Op.load 40 (Operand.tmp 88), type := 40, pos := "ref.go:191", after := #[{ on := 2, ground := Ground.data }], guard := none }) (v := .slice none 0 0) rfl (by kernel_rfl) (by kernel_rfl) (by kernel_rfl) (by kernel_rfl) (fun _ _ _ h => by cases h.1) (Or.inl ⟨by rfl, ?_⟩) hHeld ?_
              · intro w hSw
                have xq := kept hSw hcellW
                first
                  | rfl
                  | (go_simp; done)
              try simp only [Act.put, List.setIfInBounds_toArray, List.set_cons_zero, List.set_cons_succ]
              refine wpAnyT_take (i := 4) (oi := { dst := some 90, op := Op.call { callee := Callee.builtin Builtin.len, args := #[Operand.tmp 89], argTypes := #[40] }, type := 3, pos := "ref.go:191", after := #[{ on := 3, ground := Ground.data }], guard := none }) (v := .int .i64 0) rfl (by kernel_rfl) (by kernel_rfl) (by kernel_rfl) (by kernel_rfl) (fun _ _ _ h => by cases h.1) (Or.inl ⟨by rfl, ?_⟩) hHeld ?_
              · intro w hSw
                have xq := kept hSw hcellW
                first
                  | rfl
                  | (go_simp; done)
              try simp only [Act.put, List.setIfInBounds_toArray, List.set_cons_zero, List.set_cons_succ]
              refine wpAnyT_take (i := 5) (oi := { dst := some 91, op := Op.binOp BinOp.add 3 (Operand.tmp 90) (Operand.const (Value.int IntKind.i64 1)) 3, type := 3, pos := "ref.go:191", after := #[{ on := 4, ground := Ground.data }], guard := none }) (v := .int .i64 1) rfl (by kernel_rfl) (by kernel_rfl) (by kernel_rfl) (by kernel_rfl) (fun _ _ _ h => by cases h.1) (Or.inl ⟨by rfl, ?_⟩) hHeld ?_
              · intro w hSw
                have xq := kept hSw hcellW
                first
                  | rfl
                  | (go_simp; done)
              try simp only [Act.put, List.setIfInBounds_toArray, List.set_cons_zero, List.set_cons_succ]
              refine wpAnyT_take (i := 7) (oi := { dst := some 93, op := Op.move (Operand.tmp 0), type := 28, pos := "ref.go:191", after := #[], guard := none }) (v := .pointer (some ⟨g, 0, none⟩)) rfl (by kernel_rfl) (by kernel_rfl) (by kernel_rfl) (by kernel_rfl) (fun _ _ _ h => by cases h.1) (Or.inl ⟨by rfl, ?_⟩) hHeld ?_
              · intro w hSw
                have xq := kept hSw hcellW
                first
                  | rfl
                  | (go_simp; done)
              try simp only [Act.put, List.setIfInBounds_toArray, List.set_cons_zero, List.set_cons_succ]
              refine wpAnyT_take (i := 8) (oi := { dst := some 94, op := Op.nilCheck (Operand.tmp 93), type := 0, pos := "ref.go:191", after := #[{ on := 7, ground := Ground.data }], guard := none }) (v := .pointer (some ⟨g, 0, none⟩)) rfl (by kernel_rfl) (by kernel_rfl) (by kernel_rfl) (by kernel_rfl) (fun _ _ _ h => by cases h.1) (Or.inl ⟨by rfl, ?_⟩) hHeld ?_
              · intro w hSw
                have xq := kept hSw hcellW
                first
                  | rfl
                  | (go_simp; done)
              try simp only [Act.put, List.setIfInBounds_toArray, List.set_cons_zero, List.set_cons_succ]
              refine wpAnyT_take (i := 9) (oi := { dst := some 95, op := Op.fieldAddr 42 (Operand.tmp 94) 0, type := 0, pos := "ref.go:191", after := #[{ on := 8, ground := Ground.data }], guard := none }) (v := .pointer (some ⟨g, 0, none⟩)) rfl (by kernel_rfl) (by kernel_rfl) (by kernel_rfl) (by kernel_rfl) (fun _ _ _ h => by cases h.1) (Or.inl ⟨by rfl, ?_⟩) hHeld ?_
              · intro w hSw
                have xq := kept hSw hcellW
                first
                  | rfl
                  | (go_simp; done)
              try simp only [Act.put, List.setIfInBounds_toArray, List.set_cons_zero, List.set_cons_succ]
              refine wpAnyT_take (i := 10) (oi := { dst := some 96, op := Op.load 40 (Operand.tmp 95), type := 40, pos := "ref.go:191", after := #[{ on := 9, ground := Ground.data }], guard := none }) (v := .slice none 0 0) rfl (by kernel_rfl) (by kernel_rfl) (by kernel_rfl) (by kernel_rfl) (fun _ _ _ h => by cases h.1) (Or.inl ⟨by rfl, ?_⟩) hHeld ?_
              · intro w hSw
                have xq := kept hSw hcellW
                first
                  | rfl
                  | (go_simp; done)
              try simp only [Act.put, List.setIfInBounds_toArray, List.set_cons_zero, List.set_cons_succ]
              refine wpAnyT_take (i := 11) (oi := { dst := some 97, op := Op.call { callee := Callee.builtin Builtin.len, args := #[Operand.tmp 96], argTypes := #[40] }, type := 3, pos := "ref.go:191", after := #[{ on := 10, ground := Ground.data }], guard := none }) (v := .int .i64 0) rfl (by kernel_rfl) (by kernel_rfl) (by kernel_rfl) (by kernel_rfl) (fun _ _ _ h => by cases h.1) (Or.inl ⟨by rfl, ?_⟩) hHeld ?_
              · intro w hSw
                have xq := kept hSw hcellW
                first
                  | rfl
                  | (go_simp; done)
              try simp only [Act.put, List.setIfInBounds_toArray, List.set_cons_zero, List.set_cons_succ]
              have HM0 := hide (Mk3.start wr 0)
              refine anyT_three (i := 6) (j := 12) (l := 14) (oi := { dst := some 92, op := Op.makeSlice 61 (Operand.tmp 91) (Operand.tmp 91), type := 61, pos := "ref.go:191", after := #[{ on := 5, ground := Ground.data }, { on := 5, ground := Ground.data }], guard := none }) (oj := { dst := some 98, op := Op.makeSlice 98 (Operand.tmp 97) (Operand.tmp 97), type := 98, pos := "ref.go:191", after := #[{ on := 11, ground := Ground.data }, { on := 11, ground := Ground.data }], guard := none }) (ol := { dst := some 14, op := Op.alloc 100, type := 0, pos := "ref.go:191", after := #[], guard := none }) (by kernel_rfl) rfl rfl rfl (fun K hK => ?_) (fun K hK => ?_) (fun K hK => ?_)
              · rw [if_pos (by rfl)]
                refine (unhide HM0).wpP _ _ rfl rfl rfl (unhide HN40) (fun gP wk1 hm => ?_)
                have HM1 := hide hm
                refine hK.out _ _ (fun _ => hm.bel) ?_
                clear hK K hm HM0
                try simp only [Act.put, List.setIfInBounds_toArray, List.set_cons_zero, List.set_cons_succ]
                refine anyU_two (i := 12) (j := 14) (oi := { dst := some 98, op := Op.makeSlice 98 (Operand.tmp 97) (Operand.tmp 97), type := 98, pos := "ref.go:191", after := #[{ on := 11, ground := Ground.data }, { on := 11, ground := Ground.data }], guard := none }) (oj := { dst := some 14, op := Op.alloc 100, type := 0, pos := "ref.go:191", after := #[], guard := none }) (by kernel_rfl) rfl rfl (fun K hK => ?_) (fun K hK => ?_)
                · rw [if_pos (by rfl)]
                  refine (unhide HM1).wpD _ _ rfl rfl rfl (unhide HN40) (fun gD wk2 hm => ?_)
                  have HM2 := hide hm
                  refine hK.out _ _ (fun _ => hm.bel) ?_
                  clear hK K hm HM1
                  try simp only [Act.put, List.setIfInBounds_toArray, List.set_cons_zero, List.set_cons_succ]
                  refine wpAnyT_take (i := 13) (oi := { dst := some 99, op := Op.build 100 #[(0, Operand.tmp 92), (1, Operand.tmp 98)], type := 100, pos := "ref.go:191", after := #[{ on := 6, ground := Ground.data }, { on := 12, ground := Ground.data }], guard := none }) (v := .agg #[.slice (some ⟨gP, 0, none⟩) 1 1, .slice (some ⟨gD, 0, none⟩) 0 0]) rfl (by kernel_rfl) (by kernel_rfl) (by kernel_rfl) (by kernel_rfl) (fun _ _ _ h => by cases h.1) (Or.inl ⟨by rfl, ?_⟩) (unhide HM2).bel ?_
                  · intro w hSw
                    first
                      | rfl
                      | (go_simp; done)
                  try simp only [Act.put, List.setIfInBounds_toArray, List.set_cons_zero, List.set_cons_succ]
                  refine wpAnyT_one (i := 14) (o := { dst := some 14, op := Op.alloc 100, type := 0, pos := "ref.go:191", after := #[], guard := none }) (by kernel_rfl) rfl (fun K hK => ?_)
                  rw [if_pos (by rfl)]
                  refine (unhide HM2).wpX rfl (fun gW wk3 hm => ?_)
                  have HM3 := hide hm
                  refine hK.out _ _ (fun _ => hm.bel) ?_
                  clear hK K hm HM2
                  try simp only [Act.put, List.setIfInBounds_toArray, List.set_cons_zero, List.set_cons_succ]
                  have HMS := hide ((unhide HM3).store (unhide HN40))
                  have fr0 := ((unhide HM3).x gW rfl).1.frozen 0
                  have fr1 := ((unhide HM3).x gW rfl).1.frozen 1
                  have xc0 : wk3.cell? ⟨gW, 0, none⟩ = some (.slice none 0 0) := ((unhide HM3).x gW rfl).1.cell 0
                  have xc1 : wk3.cell? ⟨gW, 1, none⟩ = some (.slice none 0 0) := ((unhide HM3).x gW rfl).1.cell 1
                  refine wpAnyT_one (i := 15) (o := { dst := none, op := Op.store 100 (Operand.tmp 14) (Operand.tmp 99), type := 0, pos := "ref.go:191", after := #[{ on := 14, ground := Ground.data }, { on := 13, ground := Ground.data }, { on := 0, ground := Ground.phase }, { on := 1, ground := Ground.phase }, { on := 2, ground := Ground.phase }, { on := 3, ground := Ground.phase }, { on := 4, ground := Ground.phase }, { on := 5, ground := Ground.phase }, { on := 6, ground := Ground.phase }, { on := 7, ground := Ground.phase }, { on := 8, ground := Ground.phase }, { on := 9, ground := Ground.phase }, { on := 10, ground := Ground.phase }, { on := 11, ground := Ground.phase }, { on := 12, ground := Ground.phase }, { on := 13, ground := Ground.phase }, { on := 14, ground := Ground.phase }], guard := none }) (by kernel_rfl) rfl (fun K hK => ?_)
                  go_simp
                  refine hK.out _ _ (fun _ => (unhide HMS).bel) ?_
                  clear hK K
                  try simp only [Act.put, List.setIfInBounds_toArray, List.set_cons_zero, List.set_cons_succ]
                  refine wpAnyT_done (by kernel_rfl) ?_ _
                  exact ⟨rfl, gP, gD, gW, rfl, unhide HMS⟩
                · rw [if_pos (by rfl)]
                  refine (unhide HM1).wpX rfl (fun gW wk2 hm => ?_)
                  have HM2 := hide hm
                  refine hK.out _ _ (fun _ => hm.bel) ?_
                  clear hK K hm HM1
                  try simp only [Act.put, List.setIfInBounds_toArray, List.set_cons_zero, List.set_cons_succ]
                  refine wpAnyT_one (i := 12) (o := { dst := some 98, op := Op.makeSlice 98 (Operand.tmp 97) (Operand.tmp 97), type := 98, pos := "ref.go:191", after := #[{ on := 11, ground := Ground.data }, { on := 11, ground := Ground.data }], guard := none }) (by kernel_rfl) rfl (fun K hK => ?_)
                  rw [if_pos (by rfl)]
                  refine (unhide HM2).wpD _ _ rfl rfl rfl (unhide HN40) (fun gD wk3 hm => ?_)
                  have HM3 := hide hm
                  refine hK.out _ _ (fun _ => hm.bel) ?_
                  clear hK K hm HM2
                  try simp only [Act.put, List.setIfInBounds_toArray, List.set_cons_zero, List.set_cons_succ]
                  refine wpAnyT_take (i := 13) (oi := { dst := some 99, op := Op.build 100 #[(0, Operand.tmp 92), (1, Operand.tmp 98)], type := 100, pos := "ref.go:191", after := #[{ on := 6, ground := Ground.data }, { on := 12, ground := Ground.data }], guard := none }) (v := .agg #[.slice (some ⟨gP, 0, none⟩) 1 1, .slice (some ⟨gD, 0, none⟩) 0 0]) rfl (by kernel_rfl) (by kernel_rfl) (by kernel_rfl) (by kernel_rfl) (fun _ _ _ h => by cases h.1) (Or.inl ⟨by rfl, ?_⟩) (unhide HM3).bel ?_
                  · intro w hSw
                    first
                      | rfl
                      | (go_simp; done)
                  try simp only [Act.put, List.setIfInBounds_toArray, List.set_cons_zero, List.set_cons_succ]
                  have HMS := hide ((unhide HM3).store (unhide HN40))
                  have fr0 := ((unhide HM3).x gW rfl).1.frozen 0
                  have fr1 := ((unhide HM3).x gW rfl).1.frozen 1
                  have xc0 : wk3.cell? ⟨gW, 0, none⟩ = some (.slice none 0 0) := ((unhide HM3).x gW rfl).1.cell 0
                  have xc1 : wk3.cell? ⟨gW, 1, none⟩ = some (.slice none 0 0) := ((unhide HM3).x gW rfl).1.cell 1
                  refine wpAnyT_one (i := 15) (o := { dst := none, op := Op.store 100 (Operand.tmp 14) (Operand.tmp 99), type := 0, pos := "ref.go:191", after := #[{ on := 14, ground := Ground.data }, { on := 13, ground := Ground.data }, { on := 0, ground := Ground.phase }, { on := 1, ground := Ground.phase }, { on := 2, ground := Ground.phase }, { on := 3, ground := Ground.phase }, { on := 4, ground := Ground.phase }, { on := 5, ground := Ground.phase }, { on := 6, ground := Ground.phase }, { on := 7, ground := Ground.phase }, { on := 8, ground := Ground.phase }, { on := 9, ground := Ground.phase }, { on := 10, ground := Ground.phase }, { on := 11, ground := Ground.phase }, { on := 12, ground := Ground.phase }, { on := 13, ground := Ground.phase }, { on := 14, ground := Ground.phase }], guard := none }) (by kernel_rfl) rfl (fun K hK => ?_)
                  go_simp
                  refine hK.out _ _ (fun _ => (unhide HMS).bel) ?_
                  clear hK K
                  try simp only [Act.put, List.setIfInBounds_toArray, List.set_cons_zero, List.set_cons_succ]
                  refine wpAnyT_done (by kernel_rfl) ?_ _
                  exact ⟨rfl, gP, gD, gW, rfl, unhide HMS⟩
              · rw [if_pos (by rfl)]
                refine (unhide HM0).wpD _ _ rfl rfl rfl (unhide HN40) (fun gD wk1 hm => ?_)
                have HM1 := hide hm
                refine hK.out _ _ (fun _ => hm.bel) ?_
                clear hK K hm HM0
                try simp only [Act.put, List.setIfInBounds_toArray, List.set_cons_zero, List.set_cons_succ]
                refine anyU_two (i := 6) (j := 14) (oi := { dst := some 92, op := Op.makeSlice 61 (Operand.tmp 91) (Operand.tmp 91), type := 61, pos := "ref.go:191", after := #[{ on := 5, ground := Ground.data }, { on := 5, ground := Ground.data }], guard := none }) (oj := { dst := some 14, op := Op.alloc 100, type := 0, pos := "ref.go:191", after := #[], guard := none }) (by kernel_rfl) rfl rfl (fun K hK => ?_) (fun K hK => ?_)
                · rw [if_pos (by rfl)]
                  refine (unhide HM1).wpP _ _ rfl rfl rfl (unhide HN40) (fun gP wk2 hm => ?_)
                  have HM2 := hide hm
                  refine hK.out _ _ (fun _ => hm.bel) ?_
                  clear hK K hm HM1
                  try simp only [Act.put, List.setIfInBounds_toArray, List.set_cons_zero, List.set_cons_succ]
                  refine wpAnyT_take (i := 13) (oi := { dst := some 99, op := Op.build 100 #[(0, Operand.tmp 92), (1, Operand.tmp 98)], type := 100, pos := "ref.go:191", after := #[{ on := 6, ground := Ground.data }, { on := 12, ground := Ground.data }], guard := none }) (v := .agg #[.slice (some ⟨gP, 0, none⟩) 1 1, .slice (some ⟨gD, 0, none⟩) 0 0]) rfl (by kernel_rfl) (by kernel_rfl) (by kernel_rfl) (by kernel_rfl) (fun _ _ _ h => by cases h.1) (Or.inl ⟨by rfl, ?_⟩) (unhide HM2).bel ?_
                  · intro w hSw
                    first
                      | rfl
                      | (go_simp; done)
                  try simp only [Act.put, List.setIfInBounds_toArray, List.set_cons_zero, List.set_cons_succ]
                  refine wpAnyT_one (i := 14) (o := { dst := some 14, op := Op.alloc 100, type := 0, pos := "ref.go:191", after := #[], guard := none }) (by kernel_rfl) rfl (fun K hK => ?_)
                  rw [if_pos (by rfl)]
                  refine (unhide HM2).wpX rfl (fun gW wk3 hm => ?_)
                  have HM3 := hide hm
                  refine hK.out _ _ (fun _ => hm.bel) ?_
                  clear hK K hm HM2
                  try simp only [Act.put, List.setIfInBounds_toArray, List.set_cons_zero, List.set_cons_succ]
                  have HMS := hide ((unhide HM3).store (unhide HN40))
                  have fr0 := ((unhide HM3).x gW rfl).1.frozen 0
                  have fr1 := ((unhide HM3).x gW rfl).1.frozen 1
                  have xc0 : wk3.cell? ⟨gW, 0, none⟩ = some (.slice none 0 0) := ((unhide HM3).x gW rfl).1.cell 0
                  have xc1 : wk3.cell? ⟨gW, 1, none⟩ = some (.slice none 0 0) := ((unhide HM3).x gW rfl).1.cell 1
                  refine wpAnyT_one (i := 15) (o := { dst := none, op := Op.store 100 (Operand.tmp 14) (Operand.tmp 99), type := 0, pos := "ref.go:191", after := #[{ on := 14, ground := Ground.data }, { on := 13, ground := Ground.data }, { on := 0, ground := Ground.phase }, { on := 1, ground := Ground.phase }, { on := 2, ground := Ground.phase }, { on := 3, ground := Ground.phase }, { on := 4, ground := Ground.phase }, { on := 5, ground := Ground.phase }, { on := 6, ground := Ground.phase }, { on := 7, ground := Ground.phase }, { on := 8, ground := Ground.phase }, { on := 9, ground := Ground.phase }, { on := 10, ground := Ground.phase }, { on := 11, ground := Ground.phase }, { on := 12, ground := Ground.phase }, { on := 13, ground := Ground.phase }, { on := 14, ground := Ground.phase }], guard := none }) (by kernel_rfl) rfl (fun K hK => ?_)
                  go_simp
                  refine hK.out _ _ (fun _ => (unhide HMS).bel) ?_
                  clear hK K
                  try simp only [Act.put, List.setIfInBounds_toArray, List.set_cons_zero, List.set_cons_succ]
                  refine wpAnyT_done (by kernel_rfl) ?_ _
                  exact ⟨rfl, gP, gD, gW, rfl, unhide HMS⟩
                · rw [if_pos (by rfl)]
                  refine (unhide HM1).wpX rfl (fun gW wk2 hm => ?_)
                  have HM2 := hide hm
                  refine hK.out _ _ (fun _ => hm.bel) ?_
                  clear hK K hm HM1
                  try simp only [Act.put, List.setIfInBounds_toArray, List.set_cons_zero, List.set_cons_succ]
                  refine wpAnyT_one (i := 6) (o := { dst := some 92, op := Op.makeSlice 61 (Operand.tmp 91) (Operand.tmp 91), type := 61, pos := "ref.go:191", after := #[{ on := 5, ground := Ground.data }, { on := 5, ground := Ground.data }], guard := none }) (by kernel_rfl) rfl (fun K hK => ?_)
                  rw [if_pos (by rfl)]
                  refine (unhide HM2).wpP _ _ rfl rfl rfl (unhide HN40) (fun gP wk3 hm => ?_)
                  have HM3 := hide hm
                  refine hK.out _ _ (fun _ => hm.bel) ?_
                  clear hK K hm HM2
                  try simp only [Act.put, List.setIfInBounds_toArray, List.set_cons_zero, List.set_cons_succ]
                  refine wpAnyT_take (i := 13) (oi := { dst := some 99, op := Op.build 100 #[(0, Operand.tmp 92), (1, Operand.tmp 98)], type := 100, pos := "ref.go:191", after := #[{ on := 6, ground := Ground.data }, { on := 12, ground := Ground.data }], guard := none }) (v := .agg #[.slice (some ⟨gP, 0, none⟩) 1 1, .slice (some ⟨gD, 0, none⟩) 0 0]) rfl (by kernel_rfl) (by kernel_rfl) (by kernel_rfl) (by kernel_rfl) (fun _ _ _ h => by cases h.1) (Or.inl ⟨by rfl, ?_⟩) (unhide HM3).bel ?_
                  · intro w hSw
                    first
                      | rfl
                      | (go_simp; done)
                  try simp only [Act.put, List.setIfInBounds_toArray, List.set_cons_zero, List.set_cons_succ]
                  have HMS := hide ((unhide HM3).store (unhide HN40))
                  have fr0 := ((unhide HM3).x gW rfl).1.frozen 0
                  have fr1 := ((unhide HM3).x gW rfl).1.frozen 1
                  have xc0 : wk3.cell? ⟨gW, 0, none⟩ = some (.slice none 0 0) := ((unhide HM3).x gW rfl).1.cell 0
                  have xc1 : wk3.cell? ⟨gW, 1, none⟩ = some (.slice none 0 0) := ((unhide HM3).x gW rfl).1.cell 1
                  refine wpAnyT_one (i := 15) (o := { dst := none, op := Op.store 100 (Operand.tmp 14) (Operand.tmp 99), type := 0, pos := "ref.go:191", after := #[{ on := 14, ground := Ground.data }, { on := 13, ground := Ground.data }, { on := 0, ground := Ground.phase }, { on := 1, ground := Ground.phase }, { on := 2, ground := Ground.phase }, { on := 3, ground := Ground.phase }, { on := 4, ground := Ground.phase }, { on := 5, ground := Ground.phase }, { on := 6, ground := Ground.phase }, { on := 7, ground := Ground.phase }, { on := 8, ground := Ground.phase }, { on := 9, ground := Ground.phase }, { on := 10, ground := Ground.phase }, { on := 11, ground := Ground.phase }, { on := 12, ground := Ground.phase }, { on := 13, ground := Ground.phase }, { on := 14, ground := Ground.phase }], guard := none }) (by kernel_rfl) rfl (fun K hK => ?_)
                  go_simp
                  refine hK.out _ _ (fun _ => (unhide HMS).bel) ?_
                  clear hK K
                  try simp only [Act.put, List.setIfInBounds_toArray, List.set_cons_zero, List.set_cons_succ]
                  refine wpAnyT_done (by kernel_rfl) ?_ _
                  exact ⟨rfl, gP, gD, gW, rfl, unhide HMS⟩
              · rw [if_pos (by rfl)]
                refine (unhide HM0).wpX rfl (fun gW wk1 hm => ?_)
                have HM1 := hide hm
                refine hK.out _ _ (fun _ => hm.bel) ?_
                clear hK K hm HM0
                try simp only [Act.put, List.setIfInBounds_toArray, List.set_cons_zero, List.set_cons_succ]
                refine anyU_two (i := 6) (j := 12) (oi := { dst := some 92, op := Op.makeSlice 61 (Operand.tmp 91) (Operand.tmp 91), type := 61, pos := "ref.go:191", after := #[{ on := 5, ground := Ground.data }, { on := 5, ground := Ground.data }], guard := none }) (oj := { dst := some 98, op := Op.makeSlice 98 (Operand.tmp 97) (Operand.tmp 97), type := 98, pos := "ref.go:191", after := #[{ on := 11, ground := Ground.data }, { on := 11, ground := Ground.data }], guard := none }) (by kernel_rfl) rfl rfl (fun K hK => ?_) (fun K hK => ?_)
                · rw [if_pos (by rfl)]
                  refine (unhide HM1).wpP _ _ rfl rfl rfl (unhide HN40) (fun gP wk2 hm => ?_)
                  have HM2 := hide hm
                  refine hK.out _ _ (fun _ => hm.bel) ?_
                  clear hK K hm HM1
                  try simp only [Act.put, List.setIfInBounds_toArray, List.set_cons_zero, List.set_cons_succ]
                  refine wpAnyT_one (i := 12) (o := { dst := some 98, op := Op.makeSlice 98 (Operand.tmp 97) (Operand.tmp 97), type := 98, pos := "ref.go:191", after := #[{ on := 11, ground := Ground.data }, { on := 11, ground := Ground.data }], guard := none }) (by kernel_rfl) rfl (fun K hK => ?_)
                  rw [if_pos (by rfl)]
                  refine (unhide HM2).wpD _ _ rfl rfl rfl (unhide HN40) (fun gD wk3 hm => ?_)
                  have HM3 := hide hm
                  refine hK.out _ _ (fun _ => hm.bel) ?_
                  clear hK K hm HM2
                  try simp only [Act.put, List.setIfInBounds_toArray, List.set_cons_zero, List.set_cons_succ]
                  refine wpAnyT_take (i := 13) (oi := { dst := some 99, op := Op.build 100 #[(0, Operand.tmp 92), (1, Operand.tmp 98)], type := 100, pos := "ref.go:191", after := #[{ on := 6, ground := Ground.data }, { on := 12, ground := Ground.data }], guard := none }) (v := .agg #[.slice (some ⟨gP, 0, none⟩) 1 1, .slice (some ⟨gD, 0, none⟩) 0 0]) rfl (by kernel_rfl) (by kernel_rfl) (by kernel_rfl) (by kernel_rfl) (fun _ _ _ h => by cases h.1) (Or.inl ⟨by rfl, ?_⟩) (unhide HM3).bel ?_
                  · intro w hSw
                    first
                      | rfl
                      | (go_simp; done)
                  try simp only [Act.put, List.setIfInBounds_toArray, List.set_cons_zero, List.set_cons_succ]
                  have HMS := hide ((unhide HM3).store (unhide HN40))
                  have fr0 := ((unhide HM3).x gW rfl).1.frozen 0
                  have fr1 := ((unhide HM3).x gW rfl).1.frozen 1
                  have xc0 : wk3.cell? ⟨gW, 0, none⟩ = some (.slice none 0 0) := ((unhide HM3).x gW rfl).1.cell 0
                  have xc1 : wk3.cell? ⟨gW, 1, none⟩ = some (.slice none 0 0) := ((unhide HM3).x gW rfl).1.cell 1
                  refine wpAnyT_one (i := 15) (o := { dst := none, op := Op.store 100 (Operand.tmp 14) (Operand.tmp 99), type := 0, pos := "ref.go:191", after := #[{ on := 14, ground := Ground.data }, { on := 13, ground := Ground.data }, { on := 0, ground := Ground.phase }, { on := 1, ground := Ground.phase }, { on := 2, ground := Ground.phase }, { on := 3, ground := Ground.phase }, { on := 4, ground := Ground.phase }, { on := 5, ground := Ground.phase }, { on := 6, ground := Ground.phase }, { on := 7, ground := Ground.phase }, { on := 8, ground := Ground.phase }, { on := 9, ground := Ground.phase }, { on := 10, ground := Ground.phase }, { on := 11, ground := Ground.phase }, { on := 12, ground := Ground.phase }, { on := 13, ground := Ground.phase }, { on := 14, ground := Ground.phase }], guard := none }) (by kernel_rfl) rfl (fun K hK => ?_)
                  go_simp
                  refine hK.out _ _ (fun _ => (unhide HMS).bel) ?_
                  clear hK K
                  try simp only [Act.put, List.setIfInBounds_toArray, List.set_cons_zero, List.set_cons_succ]
                  refine wpAnyT_done (by kernel_rfl) ?_ _
                  exact ⟨rfl, gP, gD, gW, rfl, unhide HMS⟩
                · rw [if_pos (by rfl)]
                  refine (unhide HM1).wpD _ _ rfl rfl rfl (unhide HN40) (fun gD wk2 hm => ?_)
                  have HM2 := hide hm
                  refine hK.out _ _ (fun _ => hm.bel) ?_
                  clear hK K hm HM1
                  try simp only [Act.put, List.setIfInBounds_toArray, List.set_cons_zero, List.set_cons_succ]
                  refine wpAnyT_one (i := 6) (o := { dst := some 92, op := Op.makeSlice 61 (Operand.tmp 91) (Operand.tmp 91), type := 61, pos := "ref.go:191", after := #[{ on := 5, ground := Ground.data }, { on := 5, ground := Ground.data }], guard := none }) (by kernel_rfl) rfl (fun K hK => ?_)
                  rw [if_pos (by rfl)]
                  refine (unhide HM2).wpP _ _ rfl rfl rfl (unhide HN40) (fun gP wk3 hm => ?_)
                  have HM3 := hide hm
                  refine hK.out _ _ (fun _ => hm.bel) ?_
                  clear hK K hm HM2
                  try simp only [Act.put, List.setIfInBounds_toArray, List.set_cons_zero, List.set_cons_succ]
                  refine wpAnyT_take (i := 13) (oi := { dst := some 99, op := Op.build 100 #[(0, Operand.tmp 92), (1, Operand.tmp 98)], type := 100, pos := "ref.go:191", after := #[{ on := 6, ground := Ground.data }, { on := 12, ground := Ground.data }], guard := none }) (v := .agg #[.slice (some ⟨gP, 0, none⟩) 1 1, .slice (some ⟨gD, 0, none⟩) 0 0]) rfl (by kernel_rfl) (by kernel_rfl) (by kernel_rfl) (by kernel_rfl) (fun _ _ _ h => by cases h.1) (Or.inl ⟨by rfl, ?_⟩) (unhide HM3).bel ?_
                  · intro w hSw
                    first
                      | rfl
                      | (go_simp; done)
                  try simp only [Act.put, List.setIfInBounds_toArray, List.set_cons_zero, List.set_cons_succ]
                  have HMS := hide ((unhide HM3).store (unhide HN40))
                  have fr0 := ((unhide HM3).x gW rfl).1.frozen 0
                  have fr1 := ((unhide HM3).x gW rfl).1.frozen 1
                  have xc0 : wk3.cell? ⟨gW, 0, none⟩ = some (.slice none 0 0) := ((unhide HM3).x gW rfl).1.cell 0
                  have xc1 : wk3.cell? ⟨gW, 1, none⟩ = some (.slice none 0 0) := ((unhide HM3).x gW rfl).1.cell 1
                  refine wpAnyT_one (i := 15) (o := { dst := none, op := Op.store 100 (Operand.tmp 14) (Operand.tmp 99), type := 0, pos := "ref.go:191", after := #[{ on := 14, ground := Ground.data }, { on := 13, ground := Ground.data }, { on := 0, ground := Ground.phase }, { on := 1, ground := Ground.phase }, { on := 2, ground := Ground.phase }, { on := 3, ground := Ground.phase }, { on := 4, ground := Ground.phase }, { on := 5, ground := Ground.phase }, { on := 6, ground := Ground.phase }, { on := 7, ground := Ground.phase }, { on := 8, ground := Ground.phase }, { on := 9, ground := Ground.phase }, { on := 10, ground := Ground.phase }, { on := 11, ground := Ground.phase }, { on := 12, ground := Ground.phase }, { on := 13, ground := Ground.phase }, { on := 14, ground := Ground.phase }], guard := none }) (by kernel_rfl) rfl (fun K hK => ?_)
                  go_simp
                  refine hK.out _ _ (fun _ => (unhide HMS).bel) ?_
                  clear hK K
                  try simp only [Act.put, List.setIfInBounds_toArray, List.set_cons_zero, List.set_cons_succ]
                  refine wpAnyT_done (by kernel_rfl) ?_ _
                  exact ⟨rfl, gP, gD, gW, rfl, unhide HMS⟩
            rintro _ wm ⟨gP, gD, gW, rfl, hmk⟩
            have HMK := hide hmk
            clear hmk
            dsimp only
            have hm : 0 + 1 = 1 := rfl
            have HQ0 := hide (MQ.start (unhide HMK) (unhide BW) (unhide HOW) hm)
            have HMM := hide hm
            have Tm : (0 : Int) < (1 : Int) := by omega
            have T0 : (0 : Int) ≤ (0 : Int) := by omega
            clear HMK BW HOW hcellW hm 
            have HQD := hide ((unhide HQ0).call (Below.refl _ _).drew)
            have hxw0 : wm.drew.cell? ⟨gW, 0, none⟩ = some (.slice (some ⟨gP, 0, none⟩) 1 1) := (unhide HQD).bx.cell 0
            have hxt : wm.drew.cell? ⟨gb, t, none⟩ = some (.int .i64 (0 : Int)) := (unhide HQD).cs (unhide HST).2.2
            have HC9 := hide ((unhide HQD).wd.cp (i := 0) (q := []) (show (List.replicate 1 ([] : List (List UInt8)))[0]? = some [] by rw [List.getElem?_replicate, if_pos (by omega)]))
            have hpc := (unhide HC9).1
            have hpf := (unhide HC9).2
            have HQ1 := hide ((unhide HQD).put 0 (by omega) (sub cs 0 0))
            have hts : txB (sub cs 0 0) = tb [] := by unfold sub; rfl
            rw [hts] at HQ1
            clear hts
            go_wp2_with fail
            refine wp_region_T (S := fun W => Below wm.drew.heap.size wm.drew W) (fun i => decide (i < 8)) (by kernel_rfl) (Below.refl _ _) (fun hHeld => ?_)
            refine wpAnyT_take (i := 0) (oi := { dst := some 100, op := Op.fieldAddr 100 (Operand.tmp 14) 0, type := 0, pos := "ref.go:192", after := #[], guard := none }) (v := .pointer (some ⟨gW, 0, none⟩)) rfl (by kernel_rfl) (by kernel_rfl) (by kernel_rfl) (by kernel_rfl) (fun _ _ _ h => h) (Or.inl ⟨by rfl, ?_⟩) hHeld ?_
            · intro w hSw
              have xa := kept hSw hxw0
              have xt := kept hSw hxt
              first
                | rfl
                | (go_simp; done)
            try simp only [Act.put, List.setIfInBounds_toArray, List.set_cons_zero, List.set_cons_succ]
            refine wpAnyT_take (i := 1) (oi := { dst := some 101, op := Op.load 61 (Operand.tmp 100), type := 61, pos := "ref.go:192", after := #[{ on := 0, ground := Ground.data }], guard := none }) (v := .slice (some ⟨gP, 0, none⟩) 1 1) rfl (by kernel_rfl) (by kernel_rfl) (by kernel_rfl) (by kernel_rfl) (fun _ _ _ h => h) (Or.inl ⟨by rfl, ?_⟩) hHeld ?_
            · intro w hSw
              have xa := kept hSw hxw0
              have xt := kept hSw hxt
              first
                | rfl
                | (go_simp; done)
            try simp only [Act.put, List.setIfInBounds_toArray, List.set_cons_zero, List.set_cons_succ]
            refine wpAnyT_take (i := 2) (oi := { dst := some 102, op := Op.move (Operand.tmp 10), type := 38, pos := "ref.go:192", after := #[], guard := none }) (v := .slice (some ⟨gb, 0, none⟩) N sc) rfl (by kernel_rfl) (by kernel_rfl) (by kernel_rfl) (by kernel_rfl) (fun _ _ _ h => h) (Or.inl ⟨by rfl, ?_⟩) hHeld ?_
            · intro w hSw
              have xa := kept hSw hxw0
              have xt := kept hSw hxt
              first
                | rfl
                | (go_simp; done)
            try simp only [Act.put, List.setIfInBounds_toArray, List.set_cons_zero, List.set_cons_succ]
            refine wpAnyT_take (i := 3) (oi := { dst := some 103, op := Op.move (Operand.tmp 3), type := 3, pos := "ref.go:192", after := #[], guard := none }) (v := .int .i64 (t : Int)) rfl (by kernel_rfl) (by kernel_rfl) (by kernel_rfl) (by kernel_rfl) (fun _ _ _ h => h) (Or.inl ⟨by rfl, ?_⟩) hHeld ?_
            · intro w hSw
              have xa := kept hSw hxw0
              have xt := kept hSw hxt
              first
                | rfl
                | (go_simp; done)
            try simp only [Act.put, List.setIfInBounds_toArray, List.set_cons_zero, List.set_cons_succ]
            refine wpAnyT_take (i := 4) (oi := { dst := some 104, op := Op.indexAddr 38 (Operand.tmp 102) (Operand.tmp 103), type := 0, pos := "ref.go:192", after := #[{ on := 2, ground := Ground.data }, { on := 3, ground := Ground.data }], guard := none }) (v := .pointer (some ⟨gb, t, none⟩)) rfl (by kernel_rfl) (by kernel_rfl) (by kernel_rfl) (by kernel_rfl) (fun _ _ _ h => h) (Or.inl ⟨by rfl, ?_⟩) hHeld ?_
            · intro w hSw
              have xa := kept hSw hxw0
              have xt := kept hSw hxt
              first
                | rfl
                | (go_simp; done)
            try simp only [Act.put, List.setIfInBounds_toArray, List.set_cons_zero, List.set_cons_succ]
            refine wpAnyT_take (i := 5) (oi := { dst := some 105, op := Op.load 3 (Operand.tmp 104), type := 3, pos := "ref.go:192", after := #[{ on := 4, ground := Ground.data }], guard := none }) (v := .int .i64 (0 : Int)) rfl (by kernel_rfl) (by kernel_rfl) (by kernel_rfl) (by kernel_rfl) (fun _ _ _ h => h) (Or.inl ⟨by rfl, ?_⟩) hHeld ?_
            · intro w hSw
              have xa := kept hSw hxw0
              have xt := kept hSw hxt
              first
                | rfl
                | (go_simp; done)
            try simp only [Act.put, List.setIfInBounds_toArray, List.set_cons_zero, List.set_cons_succ]
            refine wpAnyT_take (i := 6) (oi := { dst := some 106, op := Op.move (Operand.tmp 11), type := 9, pos := "ref.go:192", after := #[], guard := none }) (v := .string (tb [])) rfl (by kernel_rfl) (by kernel_rfl) (by kernel_rfl) (by kernel_rfl) (fun _ _ _ h => h) (Or.inl ⟨by rfl, ?_⟩) hHeld ?_
            · intro w hSw
              have xa := kept hSw hxw0
              have xt := kept hSw hxt
              first
                | rfl
                | (go_simp; done)
            try simp only [Act.put, List.setIfInBounds_toArray, List.set_cons_zero, List.set_cons_succ]
            refine wpAnyT_take (i := 7) (oi := { dst := some 107, op := Op.indexAddr 61 (Operand.tmp 101) (Operand.tmp 105), type := 0, pos := "ref.go:192", after := #[{ on := 1, ground := Ground.data }, { on := 5, ground := Ground.data }, { on := 0, ground := Ground.phase }, { on := 1, ground := Ground.phase }, { on := 2, ground := Ground.phase }, { on := 3, ground := Ground.phase }, { on := 4, ground := Ground.phase }, { on := 5, ground := Ground.phase }, { on := 6, ground := Ground.phase }], guard := none }) (v := .pointer (some ⟨gP, 0, none⟩)) rfl (by kernel_rfl) (by kernel_rfl) (by kernel_rfl) (by kernel_rfl) (fun _ _ _ h => h) (Or.inl ⟨by rfl, ?_⟩) hHeld ?_
            · intro w hSw
              have xa := kept hSw hxw0
              have xt := kept hSw hxt
              first
                | rfl
                | (go_simp; done)
            try simp only [Act.put, List.setIfInBounds_toArray, List.set_cons_zero, List.set_cons_succ]
            refine wpAnyT_one (i := 8) (o := { dst := none, op := Op.store 9 (Operand.tmp 107) (Operand.tmp 106), type := 0, pos := "ref.go:192", after := #[{ on := 7, ground := Ground.data }, { on := 6, ground := Ground.data }, { on := 0, ground := Ground.phase }, { on := 1, ground := Ground.phase }, { on := 2, ground := Ground.phase }, { on := 3, ground := Ground.phase }, { on := 4, ground := Ground.phase }, { on := 5, ground := Ground.phase }, { on := 6, ground := Ground.phase }], guard := none }) (by kernel_rfl) rfl (fun K hK => ?_)
            go_simp
            refine hK.out _ _ (fun h => by cases h) ?_
            clear hK K
            try simp only [Act.put, List.setIfInBounds_toArray, List.set_cons_zero, List.set_cons_succ]
            refine wpAnyT_done (by kernel_rfl) ?_ _
            obtain ⟨wq, hwq⟩ : ∃ z, (wm.setCell ⟨gP, 0, none⟩ (.string (tb []))).drew = z := ⟨_, rfl⟩
            have HQ1 : Hid (MQ w wq gP gD gW gb 1 0 N sc (sts cs) ((List.replicate 1 []).set 0 (sub cs 0 0)) (List.replicate 0 false)) := by rw [← hwq]; exact HQ1
            rw [hwq]
            clear hwq hxw0 hxt hpc hpf HC9 HQ0 HQD
            have hcf := (unhide HQ1).cs (unhide HST).1
            go_wp2_with fail
            go_loopw [15] (fun iv wr => ∃ i : Nat, 0 ≤ i ∧ i ≤ 0 ∧ iv = .int .i64 (i : Int) ∧ Hid (MQ w wr gP gD gW gb 1 0 N sc (sts cs) ((List.replicate 1 []).set 0 (sub cs 0 0)) (mvD 0 0 i))) (fun iv _ => ((0 : Int) - intOf iv).toNat)
            case atStart => exact ⟨0, Nat.le_refl _, by omega, rfl, hide (by rw [mvD_zero (by omega)]; exact unhide HQ1)⟩
            case round =>
              clear HQ1 hcf
              obtain ⟨i, hi1, hi2, rfl, HQ⟩ := hrel
              have hcu := (unhide HQ).cs (unhide HST).2.1
              by_cases c1 : (i : Int) < (0 : Int)
              · exfalso
                omega
              · obtain rfl : i = 0 := by omega
                have HH := hide (show Cps (sub cs 0 0) from fun d hd => unhide HCS d (List.mem_of_mem_drop (List.mem_of_mem_take hd)))
                have KC := hide (close_any wr (unhide HQ).wd (by rw [(unhide HQ).pl, (unhide HQ).dl]) (mv_cps (unhide HH)) (by rw [mv_len (show 0 + 1 = 1 from rfl) (by omega) (by omega) (by omega), sub_len (by omega) (by rw [unhide HNN]; omega)]; omega) (Nat.le_trans (toN_le _) (by rw [mv_len (show 0 + 1 = 1 from rfl) (by omega) (by omega) (by omega), sub_len (by omega) (by rw [unhide HNN]; omega)]; omega)) (by rw [(unhide HQ).dl]; omega))
                have HB9 := hide (unhide HQ).bel
                have hx0 : wr.cell? ⟨gW, 0, none⟩ = some (.slice (some ⟨gP, 0, none⟩) 1 1) := (unhide HQ).bx.cell 0
                have hx1 : wr.cell? ⟨gW, 1, none⟩ = some (.slice (some ⟨gD, 0, none⟩) 0 0) := (unhide HQ).bx.cell 1
                rw [unhide HNN] at HD
                go_wp2_with fail
                refine Calls.mono (unhide KC) ?_
                rintro r w9 ⟨v, L, rfl, o9, n9, a9, b9⟩
                have HR9 := hide ((unhide HV) _ v L w9 (unhide HB9) o9 n9 (a9.trans (unhide HD)) b9)
                clear o9 n9 a9 b9 KC
                go_wp2_with fail
                go_ret2
                exact unhide HR9
    · injection e9 with e1 e2 e3
      subst e1
      clear e2 e3 h3
      by_cases tf : t ≤ f
      · have tfI : decide (f < t) = false := decide_eq_false (by omega)
        go_wp2_with fail
        go_quiet (fail)
        have BD := hide (Go.Joins.below_draws w1.heap.size w1 nq)
        have B2 := hide ((unhide B1).trans ((unhide BD).mono (unhide B1).size))
        have HC2 := hide (And.intro (kept (unhide BD) (unhide HC3).1) (And.intro (kept (unhide BD) (unhide HC3).2.1) (kept (unhide BD) (unhide HC3).2.2)))
        have HR2 := hide (own_call (unhide HR1) (unhide BD))
        have HO2 := hide (own_call (unhide HO) (unhide BD))
        have hcell2 := kept (unhide BD) hcell1
        clear BD HC3 HO HR1 B1 hcell1
        obtain ⟨w2, hw2⟩ : ∃ z, w1.drewN nq = z := ⟨_, rfl⟩
        rw [hw2] at B2 HC2 HR2 HO2 hcell2 ⊢
        clear hw2 hcf hcfk hct
        obtain ⟨M, hM⟩ : ∃ z, E - F = z := ⟨_, rfl⟩
        obtain ⟨sv, hsv⟩ : ∃ z, (if cr = F then some ({ block := gr, off := 0 } : Addr) else some { block := gr, off := F }) = z := ⟨_, rfl⟩
        obtain ⟨sq, hsq⟩ : ∃ z, cr - F = z := ⟨_, rfl⟩
        rw [hM, hsv, hsq]
        have HSV := hide (And.intro hsv (And.intro hM hsq))
        have hMI : (M : Int) ≤ 1048576 := by omega
        have hMq : (M : Int) ≤ (sq : Int) := by omega
        clear hsv hM hsq
        go_wp2_with fail
        go_loopw [11, 77] (fun tv i wr => ∃ j : Nat, j ≤ M ∧ i = .int .i64 (j : Int) ∧ tv = .string (tb ((sub cs F E).take j)) ∧ Hid (Below w2.heap.size w2 wr)) (fun _ i _ => ((M : Int) - intOf i).toNat)
        case atStart => exact ⟨0, by omega, by simp, rfl, hide (Below.refl _ _)⟩
        case round =>
          obtain ⟨j, hj, rfl, rfl, HB⟩ := hrel
          by_cases c1 : (j : Int) < (M : Int)
          · obtain ⟨c, hc, hnx⟩ := sub_next (cs := cs) (F := F) (E := E) (i := j) (by have := (unhide HSV).2.1; omega) (by rw [unhide HNN]; omega)
            obtain ⟨g9, c9, e, hce, _, _, _⟩ := own_rd (own_call (unhide HR2) (unhide HB)) (rnv_at hc)
            injection e with e1 _ e3
            injection e1 with e1
            injection e1 with e1 _ _
            subst e1 e3
            have hne : ¬ cr = F := by have := (unhide HSV).2.1; omega
            have hs9 := (unhide HSV).1
            rw [if_neg hne] at hs9
            subst hs9
            have HNX := hide (And.intro hc hnx)
            obtain ⟨y, hy⟩ : ∃ y : Int, (rn c : Int) = y := ⟨_, rfl⟩
            rw [hy] at hce
            have hcp : Cps [c] := fun d hd => by rw [List.mem_singleton] at hd; rw [hd]; exact unhide HCS c (List.mem_of_getElem? hc)
            have hsub : Cps ((sub cs F E).take j) := fun d hd => unhide HCS d (List.mem_of_mem_drop (List.mem_of_mem_take (List.mem_of_mem_take hd)))
            have henc : Utf8.encode y = tb [c] := by rw [← hy]; exact (enc_cp hcp.head).trans (txB_one c)
            have hsz : (tb ((sub cs F E).take j)).size + (Utf8.encode y).size ≤ 9223372036854775807 := by
              have z1 := txB_le hsub
              have z2 := txB_le hcp
              rw [henc]
              rw [List.length_take] at z1
              have z3 : (tb ((sub cs F E).take j)).size = (txB ((sub cs F E).take j)).size := rfl
              have z4 : (tb [c]).size = (txB [c]).size := rfl
              rw [List.length_singleton] at z2
              omega
            have HEN := hide henc
            have j0 : (0 : Int) ≤ (j : Int) := by omega
            clear hc hnx hy hne hcp hsub henc
            go_wp2_with fail
            exact ⟨⟨j + 1, by omega, by simp, by rw [unhide HEN, (unhide HNX).2]; exact congrArg Value.string (txB_app _ _), HB⟩, by simp [intOf]; omega⟩
          · obtain rfl : j = M := by omega
            go_wp2_with fail
            have BW := hide ((unhide B2).trans ((unhide HB).mono (unhide B2).size))
            have HOW := hide (own_call (unhide HO2) (unhide HB))
            have hcellW := kept (unhide HB) hcell2
            clear HB HR2 HO2 HC2 B2 hcell2
            obtain ⟨TS, hTS⟩ : ∃ z, tb ((sub cs F E).take j) = z := ⟨_, rfl⟩
            have HTS := hide hTS
            rw [hTS]
            clear hTS
            have HN40 : Hid (n ≤ 1099511627776) := hide (by omega)
            have hw1 : IntKind.i64.wrap ((n : Int) + 1) = ((n + 1 : Nat) : Int) := by rw [IntKind.wrap_i64] <;> omega
            refine reg_post (fun a_ w_ => ∃ gP gD gW, a_ = ({ tmps := #[.pointer (some ⟨g, 0, none⟩), .int .i64 (f : Int), .int .i64 (k : Int), .int .i64 (t : Int), undef, undef, undef, undef, .slice none 0 0, .int .i64 0, .slice (some ⟨gb, 0, none⟩) N sc, .string TS, undef, u13, .pointer (some ⟨gW, 0, none⟩), undef, .pointer (some ⟨g, 0, none⟩), .slice (some ⟨gb, 0, none⟩) N sc, .int .i64 (f : Int), .bool false, .bool false, .int .i64 (k : Int), .bool false, .bool false, .bool false, .int .i64 (f : Int), .slice (some ⟨gb, 0, none⟩) N sc, .int .i64 (N : Int), .bool false, .bool false, .bool false, .int .i64 (k : Int), .slice (some ⟨gb, 0, none⟩) N sc, .int .i64 (N : Int), .int .i64 ((N : Int) - 1), .int .i64 (f : Int), .int .i64 ((N : Int) - 1 - (f : Int)), .bool false, .bool false, .bool false, .int .i64 (t : Int), .bool false, .bool false, .bool false, .int .i64 (t : Int), .slice (some ⟨gb, 0, none⟩) N sc, .int .i64 (N : Int), .bool false, .bool false, .bool false, .int .i64 (t : Int), .int .i64 (f : Int), .bool false, .bool false, undef, undef, undef, undef, undef, .bool false, .bool false, .pointer (some ⟨g, 0, none⟩), .pointer (some ⟨g, 0, none⟩), .pointer (some ⟨g, 0, none⟩), .slice (some ⟨gr, 0, none⟩) n cr, .slice (some ⟨gb, 0, none⟩) N sc, .int .i64 (f : Int), .pointer (some ⟨gb, f, none⟩), .int .i64 (F : Int), .slice (some ⟨gb, 0, none⟩) N sc, .int .i64 (f : Int), .int .i64 (k : Int), .int .i64 (u : Int), .pointer (some ⟨gb, u, none⟩), .int .i64 (E : Int), .slice sv j sq, .int .i64 (j : Int), .int .i64 (j : Int), .bool false, u79, u80, u81, u82, u83, u84, u85, .pointer (some ⟨g, 0, none⟩), .pointer (some ⟨g, 0, none⟩), .pointer (some ⟨g, 0, none⟩), .slice (some ⟨gr, 0, none⟩) n cr, .int .i64 (n : Int), .int .i64 ((n + 1 : Nat) : Int), .slice (some ⟨gP, 0, none⟩) (n + 1) (n + 1), .pointer (some ⟨g, 0, none⟩), .pointer (some ⟨g, 0, none⟩), .pointer (some ⟨g, 0, none⟩), .slice (some ⟨gr, 0, none⟩) n cr, .int .i64 (n : Int), .slice (some ⟨gD, 0, none⟩) n n, .agg #[.slice (some ⟨gP, 0, none⟩) (n + 1) (n + 1), .slice (some ⟨gD, 0, none⟩) n n], undef, undef, undef, undef, undef, undef, undef, undef, undef, undef, undef, undef, undef, undef, undef, undef, undef, undef, undef, undef, undef, undef, undef, undef, undef, undef, undef, undef], defers := [] } : Act) ∧ Mkd wr w_ n gP gD gW) ?_ ?_
            · refine wp_region_T (S := fun W => Below wr.heap.size wr W) (fun i => decide (i < 16)) (by kernel_rfl) ((Below.refl _ _).drew) (fun hHeld => ?_)
              refine wpAnyT_take (i := 0) (oi := { dst := some 86, op := Op.move (Operand.tmp 0), type := 28, pos := "ref.go:191", after := #[], guard := none }) (v := .pointer (some ⟨g, 0, none⟩)) rfl (by kernel_rfl) (by kernel_rfl) (by kernel_rfl) (by kernel_rfl) (fun _ _ _ h => by cases h.1) (Or.inl ⟨by rfl, ?_⟩) hHeld ?_
              · intro w hSw
                have xq := kept hSw hcellW
                first
                  | rfl
                  | (go_simp; done)
              try simp only [Act.put, List.setIfInBounds_toArray, List.set_cons_zero, List.set_cons_succ]
              refine wpAnyT_take (i := 1) (oi := { dst := some 87, op := Op.nilCheck (Operand.tmp 86), type := 0, pos := "ref.go:191", after := #[{ on := 0, ground := Ground.data }], guard := none }) (v := .pointer (some ⟨g, 0, none⟩)) rfl (by kernel_rfl) (by kernel_rfl) (by kernel_rfl) (by kernel_rfl) (fun _ _ _ h => by cases h.1) (Or.inl ⟨by rfl, ?_⟩) hHeld ?_
              · intro w hSw
                have xq := kept hSw hcellW
                first
                  | rfl
                  | (go_simp; done)
              try simp only [Act.put, List.setIfInBounds_toArray, List.set_cons_zero, List.set_cons_succ]
              refine wpAnyT_take (i := 2) (oi := { dst := some 88, op := Op.fieldAddr 42 (Operand.tmp 87) 0, type := 0, pos := "ref.go:191", after := #[{ on := 1, ground := Ground.data }], guard := none }) (v := .pointer (some ⟨g, 0, none⟩)) rfl (by kernel_rfl) (by kernel_rfl) (by kernel_rfl) (by kernel_rfl) (fun _ _ _ h => by cases h.1) (Or.inl ⟨by rfl, ?_⟩) hHeld ?_
              · intro w hSw
                have xq := kept hSw hcellW
                first
                  | rfl
                  | (go_simp; done)
              try simp only [Act.put, List.setIfInBounds_toArray, List.set_cons_zero, List.set_cons_succ]
              refine wpAnyT_take (i := 3) (oi := { dst := some 89, op := Op.load 40 (Operand.tmp 88), type := 40, pos := "ref.go:191", after := #[{ on := 2, ground := Ground.data }], guard := none }) (v := .slice (some ⟨gr, 0, none⟩) n cr) rfl (by kernel_rfl) (by kernel_rfl) (by kernel_rfl) (by kernel_rfl) (fun _ _ _ h => by cases h.1) (Or.inl ⟨by rfl, ?_⟩) hHeld ?_
              · intro w hSw
                have xq := kept hSw hcellW
                first
                  | rfl
                  | (go_simp; done)
              try simp only [Act.put, List.setIfInBounds_toArray, List.set_cons_zero, List.set_cons_succ]
              refine wpAnyT_take (i := 4) (oi := { dst := some 90, op := Op.call { callee := Callee.builtin Builtin.len, args := #[Operand.tmp 89], argTypes := #[40] }, type := 3, pos := "ref.go:191", after := #[{ on := 3, ground := Ground.data }], guard := none }) (v := .int .i64 (n : Int)) rfl (by kernel_rfl) (by kernel_rfl) (by kernel_rfl) (by kernel_rfl) (fun _ _ _ h => by cases h.1) (Or.inl ⟨by rfl, ?_⟩) hHeld ?_
              · intro w hSw
                have xq := kept hSw hcellW
                first
                  | rfl
                  | (go_simp; done)
              try simp only [Act.put, List.setIfInBounds_toArray, List.set_cons_zero, List.set_cons_succ]
              refine wpAnyT_take (i := 5) (oi := { dst := some 91, op := Op.binOp BinOp.add 3 (Operand.tmp 90) (Operand.const (Value.int IntKind.i64 1)) 3, type := 3, pos := "ref.go:191", after := #[{ on := 4, ground := Ground.data }], guard := none }) (v := .int .i64 ((n + 1 : Nat) : Int)) rfl (by kernel_rfl) (by kernel_rfl) (by kernel_rfl) (by kernel_rfl) (fun _ _ _ h => by cases h.1) (Or.inl ⟨by rfl, ?_⟩) hHeld ?_
              · intro w hSw
                have xq := kept hSw hcellW
                go_simp
                try simp only [hw1]
                try trivial
                try rfl
              try simp only [Act.put, List.setIfInBounds_toArray, List.set_cons_zero, List.set_cons_succ]
              refine wpAnyT_take (i := 7) (oi := { dst := some 93, op := Op.move (Operand.tmp 0), type := 28, pos := "ref.go:191", after := #[], guard := none }) (v := .pointer (some ⟨g, 0, none⟩)) rfl (by kernel_rfl) (by kernel_rfl) (by kernel_rfl) (by kernel_rfl) (fun _ _ _ h => by cases h.1) (Or.inl ⟨by rfl, ?_⟩) hHeld ?_
              · intro w hSw
                have xq := kept hSw hcellW
                first
                  | rfl
                  | (go_simp; done)
              try simp only [Act.put, List.setIfInBounds_toArray, List.set_cons_zero, List.set_cons_succ]
              refine wpAnyT_take (i := 8) (oi := { dst := some 94, op := Op.nilCheck (Operand.tmp 93), type := 0, pos := "ref.go:191", after := #[{ on := 7, ground := Ground.data }], guard := none }) (v := .pointer (some ⟨g, 0, none⟩)) rfl (by kernel_rfl) (by kernel_rfl) (by kernel_rfl) (by kernel_rfl) (fun _ _ _ h => by cases h.1) (Or.inl ⟨by rfl, ?_⟩) hHeld ?_
              · intro w hSw
                have xq := kept hSw hcellW
                first
                  | rfl
                  | (go_simp; done)
              try simp only [Act.put, List.setIfInBounds_toArray, List.set_cons_zero, List.set_cons_succ]
              refine wpAnyT_take (i := 9) (oi := { dst := some 95, op := Op.fieldAddr 42 (Operand.tmp 94) 0, type := 0, pos := "ref.go:191", after := #[{ on := 8, ground := Ground.data }], guard := none }) (v := .pointer (some ⟨g, 0, none⟩)) rfl (by kernel_rfl) (by kernel_rfl) (by kernel_rfl) (by kernel_rfl) (fun _ _ _ h => by cases h.1) (Or.inl ⟨by rfl, ?_⟩) hHeld ?_
              · intro w hSw
                have xq := kept hSw hcellW
                first
                  | rfl
                  | (go_simp; done)
              try simp only [Act.put, List.setIfInBounds_toArray, List.set_cons_zero, List.set_cons_succ]
              refine wpAnyT_take (i := 10) (oi := { dst := some 96, op := Op.load 40 (Operand.tmp 95), type := 40, pos := "ref.go:191", after := #[{ on := 9, ground := Ground.data }], guard := none }) (v := .slice (some ⟨gr, 0, none⟩) n cr) rfl (by kernel_rfl) (by kernel_rfl) (by kernel_rfl) (by kernel_rfl) (fun _ _ _ h => by cases h.1) (Or.inl ⟨by rfl, ?_⟩) hHeld ?_
              · intro w hSw
                have xq := kept hSw hcellW
                first
                  | rfl
                  | (go_simp; done)
              try simp only [Act.put, List.setIfInBounds_toArray, List.set_cons_zero, List.set_cons_succ]
              refine wpAnyT_take (i := 11) (oi := { dst := some 97, op := Op.call { callee := Callee.builtin Builtin.len, args := #[Operand.tmp 96], argTypes := #[40] }, type := 3, pos := "ref.go:191", after := #[{ on := 10, ground := Ground.data }], guard := none }) (v := .int .i64 (n : Int)) rfl (by kernel_rfl) (by kernel_rfl) (by kernel_rfl) (by kernel_rfl) (fun _ _ _ h => by cases h.1) (Or.inl ⟨by rfl, ?_⟩) hHeld ?_
              · intro w hSw
                have xq := kept hSw hcellW
                first
                  | rfl
                  | (go_simp; done)
              try simp only [Act.put, List.setIfInBounds_toArray, List.set_cons_zero, List.set_cons_succ]
              have HM0 := hide (Mk3.start wr n)
              refine anyT_three (i := 6) (j := 12) (l := 14) (oi := { dst := some 92, op := Op.makeSlice 61 (Operand.tmp 91) (Operand.tmp 91), type := 61, pos := "ref.go:191", after := #[{ on := 5, ground := Ground.data }, { on := 5, ground := Ground.data }], guard := none }) (oj := { dst := some 98, op := Op.makeSlice 98 (Operand.tmp 97) (Operand.tmp 97), type := 98, pos := "ref.go:191", after := #[{ on := 11, ground := Ground.data }, { on := 11, ground := Ground.data }], guard := none }) (ol := { dst := some 14, op := Op.alloc 100, type := 0, pos := "ref.go:191", after := #[], guard := none }) (by kernel_rfl) rfl rfl rfl (fun K hK => ?_) (fun K hK => ?_) (fun K hK => ?_)
              · rw [if_pos (by rfl)]
                refine (unhide HM0).wpP _ _ rfl rfl rfl (unhide HN40) (fun gP wk1 hm => ?_)
                have HM1 := hide hm
                refine hK.out _ _ (fun _ => hm.bel) ?_
                clear hK K hm HM0
                try simp only [Act.put, List.setIfInBounds_toArray, List.set_cons_zero, List.set_cons_succ]
                refine anyU_two (i := 12) (j := 14) (oi := { dst := some 98, op := Op.makeSlice 98 (Operand.tmp 97) (Operand.tmp 97), type := 98, pos := "ref.go:191", after := #[{ on := 11, ground := Ground.data }, { on := 11, ground := Ground.data }], guard := none }) (oj := { dst := some 14, op := Op.alloc 100, type := 0, pos := "ref.go:191", after := #[], guard := none }) (by kernel_rfl) rfl rfl (fun K hK => ?_) (fun K hK => ?_)
                · rw [if_pos (by rfl)]
                  refine (unhide HM1).wpD _ _ rfl rfl rfl (unhide HN40) (fun gD wk2 hm => ?_)
                  have HM2 := hide hm
                  refine hK.out _ _ (fun _ => hm.bel) ?_
                  clear hK K hm HM1
                  try simp only [Act.put, List.setIfInBounds_toArray, List.set_cons_zero, List.set_cons_succ]
                  refine wpAnyT_take (i := 13) (oi := { dst := some 99, op := Op.build 100 #[(0, Operand.tmp 92), (1, Operand.tmp 98)], type := 100, pos := "ref.go:191", after := #[{ on := 6, ground := Ground.data }, { on := 12, ground := Ground.data }], guard := none }) (v := .agg #[.slice (some ⟨gP, 0, none⟩) (n + 1) (n + 1), .slice (some ⟨gD, 0, none⟩) n n]) rfl (by kernel_rfl) (by kernel_rfl) (by kernel_rfl) (by kernel_rfl) (fun _ _ _ h => by cases h.1) (Or.inl ⟨by rfl, ?_⟩) (unhide HM2).bel ?_
                  · intro w hSw
                    first
                      | rfl
                      | (go_simp; done)
                  try simp only [Act.put, List.setIfInBounds_toArray, List.set_cons_zero, List.set_cons_succ]
                  refine wpAnyT_one (i := 14) (o := { dst := some 14, op := Op.alloc 100, type := 0, pos := "ref.go:191", after := #[], guard := none }) (by kernel_rfl) rfl (fun K hK => ?_)
                  rw [if_pos (by rfl)]
                  refine (unhide HM2).wpX rfl (fun gW wk3 hm => ?_)
                  have HM3 := hide hm
                  refine hK.out _ _ (fun _ => hm.bel) ?_
                  clear hK K hm HM2
                  try simp only [Act.put, List.setIfInBounds_toArray, List.set_cons_zero, List.set_cons_succ]
                  have HMS := hide ((unhide HM3).store (unhide HN40))
                  have fr0 := ((unhide HM3).x gW rfl).1.frozen 0
                  have fr1 := ((unhide HM3).x gW rfl).1.frozen 1
                  have xc0 : wk3.cell? ⟨gW, 0, none⟩ = some (.slice none 0 0) := ((unhide HM3).x gW rfl).1.cell 0
                  have xc1 : wk3.cell? ⟨gW, 1, none⟩ = some (.slice none 0 0) := ((unhide HM3).x gW rfl).1.cell 1
                  refine wpAnyT_one (i := 15) (o := { dst := none, op := Op.store 100 (Operand.tmp 14) (Operand.tmp 99), type := 0, pos := "ref.go:191", after := #[{ on := 14, ground := Ground.data }, { on := 13, ground := Ground.data }, { on := 0, ground := Ground.phase }, { on := 1, ground := Ground.phase }, { on := 2, ground := Ground.phase }, { on := 3, ground := Ground.phase }, { on := 4, ground := Ground.phase }, { on := 5, ground := Ground.phase }, { on := 6, ground := Ground.phase }, { on := 7, ground := Ground.phase }, { on := 8, ground := Ground.phase }, { on := 9, ground := Ground.phase }, { on := 10, ground := Ground.phase }, { on := 11, ground := Ground.phase }, { on := 12, ground := Ground.phase }, { on := 13, ground := Ground.phase }, { on := 14, ground := Ground.phase }], guard := none }) (by kernel_rfl) rfl (fun K hK => ?_)
                  go_simp
                  refine hK.out _ _ (fun _ => (unhide HMS).bel) ?_
                  clear hK K
                  try simp only [Act.put, List.setIfInBounds_toArray, List.set_cons_zero, List.set_cons_succ]
                  refine wpAnyT_done (by kernel_rfl) ?_ _
                  exact ⟨rfl, gP, gD, gW, rfl, unhide HMS⟩
                · rw [if_pos (by rfl)]
                  refine (unhide HM1).wpX rfl (fun gW wk2 hm => ?_)
                  have HM2 := hide hm
                  refine hK.out _ _ (fun _ => hm.bel) ?_
                  clear hK K hm HM1
                  try simp only [Act.put, List.setIfInBounds_toArray, List.set_cons_zero, List.set_cons_succ]
                  refine wpAnyT_one (i := 12) (o := { dst := some 98, op := Op.makeSlice 98 (Operand.tmp 97) (Operand.tmp 97), type := 98, pos := "ref.go:191", after := #[{ on := 11, ground := Ground.data }, { on := 11, ground := Ground.data }], guard := none }) (by kernel_rfl) rfl (fun K hK => ?_)
                  rw [if_pos (by rfl)]
                  refine (unhide HM2).wpD _ _ rfl rfl rfl (unhide HN40) (fun gD wk3 hm => ?_)
                  have HM3 := hide hm
                  refine hK.out _ _ (fun _ => hm.bel) ?_
                  clear hK K hm HM2
                  try simp only [Act.put, List.setIfInBounds_toArray, List.set_cons_zero, List.set_cons_succ]
                  refine wpAnyT_take (i := 13) (oi := { dst := some 99, op := Op.build 100 #[(0, Operand.tmp 92), (1, Operand.tmp 98)], type := 100, pos := "ref.go:191", after := #[{ on := 6, ground := Ground.data }, { on := 12, ground := Ground.data }], guard := none }) (v := .agg #[.slice (some ⟨gP, 0, none⟩) (n + 1) (n + 1), .slice (some ⟨gD, 0, none⟩) n n]) rfl (by kernel_rfl) (by kernel_rfl) (by kernel_rfl) (by kernel_rfl) (fun _ _ _ h => by cases h.1) (Or.inl ⟨by rfl, ?_⟩) (unhide HM3).bel ?_
                  · intro w hSw
                    first
                      | rfl
                      | (go_simp; done)
                  try simp only [Act.put, List.setIfInBounds_toArray, List.set_cons_zero, List.set_cons_succ]
                  have HMS := hide ((unhide HM3).store (unhide HN40))
                  have fr0 := ((unhide HM3).x gW rfl).1.frozen 0
                  have fr1 := ((unhide HM3).x gW rfl).1.frozen 1
                  have xc0 : wk3.cell? ⟨gW, 0, none⟩ = some (.slice none 0 0) := ((unhide HM3).x gW rfl).1.cell 0
                  have xc1 : wk3.cell? ⟨gW, 1, none⟩ = some (.slice none 0 0) := ((unhide HM3).x gW rfl).1.cell 1
                  refine wpAnyT_one (i := 15) (o := { dst := none, op := Op.store 100 (Operand.tmp 14) (Operand.tmp 99), type := 0, pos := "ref.go:191", after := #[{ on := 14, ground := Ground.data }, { on := 13, ground := Ground.data }, { on := 0, ground := Ground.phase }, { on := 1, ground := Ground.phase }, { on := 2, ground := Ground.phase }, { on := 3, ground := Ground.phase }, { on := 4, ground := Ground.phase }, { on := 5, ground := Ground.phase }, { on := 6, ground := Ground.phase }, { on := 7, ground := Ground.phase }, { on := 8, ground := Ground.phase }, { on := 9, ground := Ground.phase }, { on := 10, ground := Ground.phase }, { on := 11, ground := Ground.phase }, { on := 12, ground := Ground.phase }, { on := 13, ground := Ground.phase }, { on := 14, ground := Ground.phase }], guard := none }) (by kernel_rfl) rfl (fun K hK => ?_)
                  go_simp
                  refine hK.out _ _ (fun _ => (unhide HMS).bel) ?_
                  clear hK K
                  try simp only [Act.put, List.setIfInBounds_toArray, List.set_cons_zero, List.set_cons_succ]
                  refine wpAnyT_done (by kernel_rfl) ?_ _
                  exact ⟨rfl, gP, gD, gW, rfl, unhide HMS⟩
              · rw [if_pos (by rfl)]
                refine (unhide HM0).wpD _ _ rfl rfl rfl (unhide HN40) (fun gD wk1 hm => ?_)
                have HM1 := hide hm
                refine hK.out _ _ (fun _ => hm.bel) ?_
                clear hK K hm HM0
                try simp only [Act.put, List.setIfInBounds_toArray, List.set_cons_zero, List.set_cons_succ]
                refine anyU_two (i := 6) (j := 14) (oi := { dst := some 92, op := Op.makeSlice 61 (Operand.tmp 91) (Operand.tmp 91), type := 61, pos := "ref.go:191", after := #[{ on := 5, ground := Ground.data }, { on := 5, ground := Ground.data }], guard := none }) (oj := { dst := some 14, op := Op.alloc 100, type := 0, pos := "ref.go:191", after := #[], guard := none }) (by kernel_rfl) rfl rfl (fun K hK => ?_) (fun K hK => ?_)
                · rw [if_pos (by rfl)]
                  refine (unhide HM1).wpP _ _ rfl rfl rfl (unhide HN40) (fun gP wk2 hm => ?_)
                  have HM2 := hide hm
                  refine hK.out _ _ (fun _ => hm.bel) ?_
                  clear hK K hm HM1
                  try simp only [Act.put, List.setIfInBounds_toArray, List.set_cons_zero, List.set_cons_succ]
                  refine wpAnyT_take (i := 13) (oi := { dst := some 99, op := Op.build 100 #[(0, Operand.tmp 92), (1, Operand.tmp 98)], type := 100, pos := "ref.go:191", after := #[{ on := 6, ground := Ground.data }, { on := 12, ground := Ground.data }], guard := none }) (v := .agg #[.slice (some ⟨gP, 0, none⟩) (n + 1) (n + 1), .slice (some ⟨gD, 0, none⟩) n n]) rfl (by kernel_rfl) (by kernel_rfl) (by kernel_rfl) (by kernel_rfl) (fun _ _ _ h => by cases h.1) (Or.inl ⟨by rfl, ?_⟩) (unhide HM2).bel ?_
                  · intro w hSw
                    first
                      | rfl
                      | (go_simp; done)
                  try simp only [Act.put, List.setIfInBounds_toArray, List.set_cons_zero, List.set_cons_succ]
                  refine wpAnyT_one (i := 14) (o := { dst := some 14, op := Op.alloc 100, type := 0, pos := "ref.go:191", after := #[], guard := none }) (by kernel_rfl) rfl (fun K hK => ?_)
                  rw [if_pos (by rfl)]
                  refine (unhide HM2).wpX rfl (fun gW wk3 hm => ?_)
                  have HM3 := hide hm
                  refine hK.out _ _ (fun _ => hm.bel) ?_
                  clear hK K hm HM2
                  try simp only [Act.put, List.setIfInBounds_toArray, List.set_cons_zero, List.set_cons_succ]
                  have HMS := hide ((unhide HM3).store (unhide HN40))
                  have fr0 := ((unhide HM3).x gW rfl).1.frozen 0
                  have fr1 := ((unhide HM3).x gW rfl).1.frozen 1
                  have xc0 : wk3.cell? ⟨gW, 0, none⟩ = some (.slice none 0 0) := ((unhide HM3).x gW rfl).1.cell 0
                  have xc1 : wk3.cell? ⟨gW, 1, none⟩ = some (.slice none 0 0) := ((unhide HM3).x gW rfl).1.cell 1
                  refine wpAnyT_one (i := 15) (o := { dst := none, op := Op.store 100 (Operand.tmp 14) (Operand.tmp 99), type := 0, pos := "ref.go:191", after := #[{ on := 14, ground := Ground.data }, { on := 13, ground := Ground.data }, { on := 0, ground := Ground.phase }, { on := 1, ground := Ground.phase }, { on := 2, ground := Ground.phase }, { on := 3, ground := Ground.phase }, { on := 4, ground := Ground.phase }, { on := 5, ground := Ground.phase }, { on := 6, ground := Ground.phase }, { on := 7, ground := Ground.phase }, { on := 8, ground := Ground.phase }, { on := 9, ground := Ground.phase }, { on := 10, ground := Ground.phase }, { on := 11, ground := Ground.phase }, { on := 12, ground := Ground.phase }, { on := 13, ground := Ground.phase }, { on := 14, ground := Ground.phase }], guard := none }) (by kernel_rfl) rfl (fun K hK => ?_)
                  go_simp
                  refine hK.out _ _ (fun _ => (unhide HMS).bel) ?_
                  clear hK K
                  try simp only [Act.put, List.setIfInBounds_toArray, List.set_cons_zero, List.set_cons_succ]
                  refine wpAnyT_done (by kernel_rfl) ?_ _
                  exact ⟨rfl, gP, gD, gW, rfl, unhide HMS⟩
                · rw [if_pos (by rfl)]
                  refine (unhide HM1).wpX rfl (fun gW wk2 hm => ?_)
                  have HM2 := hide hm
                  refine hK.out _ _ (fun _ => hm.bel) ?_
                  clear hK K hm HM1
                  try simp only [Act.put, List.setIfInBounds_toArray, List.set_cons_zero, List.set_cons_succ]
                  refine wpAnyT_one (i := 6) (o := { dst := some 92, op := Op.makeSlice 61 (Operand.tmp 91) (Operand.tmp 91), type := 61, pos := "ref.go:191", after := #[{ on := 5, ground := Ground.data }, { on := 5, ground := Ground.data }], guard := none }) (by kernel_rfl) rfl (fun K hK => ?_)
                  rw [if_pos (by rfl)]
                  refine (unhide HM2).wpP _ _ rfl rfl rfl (unhide HN40) (fun gP wk3 hm => ?_)
                  have HM3 := hide hm
                  refine hK.out _ _ (fun _ => hm.bel) ?_
                  clear hK K hm HM2
                  try simp only [Act.put, List.setIfInBounds_toArray, List.set_cons_zero, List.set_cons_succ]
                  refine wpAnyT_take (i := 13) (oi := { dst := some 99, op := Op.build 100 #[(0, Operand.tmp 92), (1, Operand.tmp 98)], type := 100, pos := "ref.go:191", after := #[{ on := 6, ground := Ground.data }, { on := 12, ground := Ground.data }], guard := none }) (v := .agg #[.slice (some ⟨gP, 0, none⟩) (n + 1) (n + 1), .slice (some ⟨gD, 0, none⟩) n n]) rfl (by kernel_rfl) (by kernel_rfl) (by kernel_rfl) (by kernel_rfl) (fun _ _ _ h => by cases h.1) (Or.inl ⟨by rfl, ?_⟩) (unhide HM3).bel ?_
                  · intro w hSw
                    first
                      | rfl
                      | (go_simp; done)
                  try simp only [Act.put, List.setIfInBounds_toArray, List.set_cons_zero, List.set_cons_succ]
                  have HMS := hide ((unhide HM3).store (unhide HN40))
                  have fr0 := ((unhide HM3).x gW rfl).1.frozen 0
                  have fr1 := ((unhide HM3).x gW rfl).1.frozen 1
                  have xc0 : wk3.cell? ⟨gW, 0, none⟩ = some (.slice none 0 0) := ((unhide HM3).x gW rfl).1.cell 0
                  have xc1 : wk3.cell? ⟨gW, 1, none⟩ = some (.slice none 0 0) := ((unhide HM3).x gW rfl).1.cell 1
                  refine wpAnyT_one (i := 15) (o := { dst := none, op := Op.store 100 (Operand.tmp 14) (Operand.tmp 99), type := 0, pos := "ref.go:191", after := #[{ on := 14, ground := Ground.data }, { on := 13, ground := Ground.data }, { on := 0, ground := Ground.phase }, { on := 1, ground := Ground.phase }, { on := 2, ground := Ground.phase }, { on := 3, ground := Ground.phase }, { on := 4, ground := Ground.phase }, { on := 5, ground := Ground.phase }, { on := 6, ground := Ground.phase }, { on := 7, ground := Ground.phase }, { on := 8, ground := Ground.phase }, { on := 9, ground := Ground.phase }, { on := 10, ground := Ground.phase }, { on := 11, ground := Ground.phase }, { on := 12, ground := Ground.phase }, { on := 13, ground := Ground.phase }, { on := 14, ground := Ground.phase }], guard := none }) (by kernel_rfl) rfl (fun K hK => ?_)
                  go_simp
                  refine hK.out _ _ (fun _ => (unhide HMS).bel) ?_
                  clear hK K
                  try simp only [Act.put, List.setIfInBounds_toArray, List.set_cons_zero, List.set_cons_succ]
                  refine wpAnyT_done (by kernel_rfl) ?_ _
                  exact ⟨rfl, gP, gD, gW, rfl, unhide HMS⟩
              · rw [if_pos (by rfl)]
                refine (unhide HM0).wpX rfl (fun gW wk1 hm => ?_)
                have HM1 := hide hm
                refine hK.out _ _ (fun _ => hm.bel) ?_
                clear hK K hm HM0
                try simp only [Act.put, List.setIfInBounds_toArray, List.set_cons_zero, List.set_cons_succ]
                refine anyU_two (i := 6) (j := 12) (oi := { dst := some 92, op := Op.makeSlice 61 (Operand.tmp 91) (Operand.tmp 91), type := 61, pos := "ref.go:191", after := #[{ on := 5, ground := Ground.data }, { on := 5, ground := Ground.data }], guard := none }) (oj := { dst := some 98, op := Op.makeSlice 98 (Operand.tmp 97) (Operand.tmp 97), type := 98, pos := "ref.go:191", after := #[{ on := 11, ground := Ground.data }, { on := 11, ground := Ground.data }], guard := none }) (by kernel_rfl) rfl rfl (fun K hK => ?_) (fun K hK => ?_)
                · rw [if_pos (by rfl)]
                  refine (unhide HM1).wpP _ _ rfl rfl rfl (unhide HN40) (fun gP wk2 hm => ?_)
                  have HM2 := hide hm
                  refine hK.out _ _ (fun _ => hm.bel) ?_
                  clear hK K hm HM1
                  try simp only [Act.put, List.setIfInBounds_toArray, List.set_cons_zero, List.set_cons_succ]
                  refine wpAnyT_one (i := 12) (o := { dst := some 98, op := Op.makeSlice 98 (Operand.tmp 97) (Operand.tmp 97), type := 98, pos := "ref.go:191", after := #[{ on := 11, ground := Ground.data }, { on := 11, ground := Ground.data }], guard := none }) (by kernel_rfl) rfl (fun K hK => ?_)
                  rw [if_pos (by rfl)]
                  refine (unhide HM2).wpD _ _ rfl rfl rfl (unhide HN40) (fun gD wk3 hm => ?_)
                  have HM3 := hide hm
                  refine hK.out _ _ (fun _ => hm.bel) ?_
                  clear hK K hm HM2
                  try simp only [Act.put, List.setIfInBounds_toArray, List.set_cons_zero, List.set_cons_succ]
                  refine wpAnyT_take (i := 13) (oi := { dst := some 99, op := Op.build 100 #[(0, Operand.tmp 92), (1, Operand.tmp 98)], type := 100, pos := "ref.go:191", after := #[{ on := 6, ground := Ground.data }, { on := 12, ground := Ground.data }], guard := none }) (v := .agg #[.slice (some ⟨gP, 0, none⟩) (n + 1) (n + 1), .slice (some ⟨gD, 0, none⟩) n n]) rfl (by kernel_rfl) (by kernel_rfl) (by kernel_rfl) (by kernel_rfl) (fun _ _ _ h => by cases h.1) (Or.inl ⟨by rfl, ?_⟩) (unhide HM3).bel ?_
                  · intro w hSw
                    first
                      | rfl
                      | (go_simp; done)
                  try simp only [Act.put, List.setIfInBounds_toArray, List.set_cons_zero, List.set_cons_succ]
                  have HMS := hide ((unhide HM3).store (unhide HN40))
                  have fr0 := ((unhide HM3).x gW rfl).1.frozen 0
                  have fr1 := ((unhide HM3).x gW rfl).1.frozen 1
                  have xc0 : wk3.cell? ⟨gW, 0, none⟩ = some (.slice none 0 0) := ((unhide HM3).x gW rfl).1.cell 0
                  have xc1 : wk3.cell? ⟨gW, 1, none⟩ = some (.slice none 0 0) := ((unhide HM3).x gW rfl).1.cell 1
                  refine wpAnyT_one (i := 15) (o := { dst := none, op := Op.store 100 (Operand.tmp 14) (Operand.tmp 99), type := 0, pos := "ref.go:191", after := #[{ on := 14, ground := Ground.data }, { on := 13, ground := Ground.data }, { on := 0, ground := Ground.phase }, { on := 1, ground := Ground.phase }, { on := 2, ground := Ground.phase }, { on := 3, ground := Ground.phase }, { on := 4, ground := Ground.phase }, { on := 5, ground := Ground.phase }, { on := 6, ground := Ground.phase }, { on := 7, ground := Ground.phase }, { on := 8, ground := Ground.phase }, { on := 9, ground := Ground.phase }, { on := 10, ground := Ground.phase }, { on := 11, ground := Ground.phase }, { on := 12, ground := Ground.phase }, { on := 13, ground := Ground.phase }, { on := 14, ground := Ground.phase }], guard := none }) (by kernel_rfl) rfl (fun K hK => ?_)
                  go_simp
                  refine hK.out _ _ (fun _ => (unhide HMS).bel) ?_
                  clear hK K
                  try simp only [Act.put, List.setIfInBounds_toArray, List.set_cons_zero, List.set_cons_succ]
                  refine wpAnyT_done (by kernel_rfl) ?_ _
                  exact ⟨rfl, gP, gD, gW, rfl, unhide HMS⟩
                · rw [if_pos (by rfl)]
                  refine (unhide HM1).wpD _ _ rfl rfl rfl (unhide HN40) (fun gD wk2 hm => ?_)
                  have HM2 := hide hm
                  refine hK.out _ _ (fun _ => hm.bel) ?_
                  clear hK K hm HM1
                  try simp only [Act.put, List.setIfInBounds_toArray, List.set_cons_zero, List.set_cons_succ]
                  refine wpAnyT_one (i := 6) (o := { dst := some 92, op := Op.makeSlice 61 (Operand.tmp 91) (Operand.tmp 91), type := 61, pos := "ref.go:191", after := #[{ on := 5, ground := Ground.data }, { on := 5, ground := Ground.data }], guard := none }) (by kernel_rfl) rfl (fun K hK => ?_)
                  rw [if_pos (by rfl)]
                  refine (unhide HM2).wpP _ _ rfl rfl rfl (unhide HN40) (fun gP wk3 hm => ?_)
                  have HM3 := hide hm
                  refine hK.out _ _ (fun _ => hm.bel) ?_
                  clear hK K hm HM2
                  try simp only [Act.put, List.setIfInBounds_toArray, List.set_cons_zero, List.set_cons_succ]
                  refine wpAnyT_take (i := 13) (oi := { dst := some 99, op := Op.build 100 #[(0, Operand.tmp 92), (1, Operand.tmp 98)], type := 100, pos := "ref.go:191", after := #[{ on := 6, ground := Ground.data }, { on := 12, ground := Ground.data }], guard := none }) (v := .agg #[.slice (some ⟨gP, 0, none⟩) (n + 1) (n + 1), .slice (some ⟨gD, 0, none⟩) n n]) rfl (by kernel_rfl) (by kernel_rfl) (by kernel_rfl) (by kernel_rfl) (fun _ _ _ h => by cases h.1) (Or.inl ⟨by rfl, ?_⟩) (unhide HM3).bel ?_
                  · intro w hSw
                    first
                      | rfl
                      | (go_simp; done)
                  try simp only [Act.put, List.setIfInBounds_toArray, List.set_cons_zero, List.set_cons_succ]
                  have HMS := hide ((unhide HM3).store (unhide HN40))
                  have fr0 := ((unhide HM3).x gW rfl).1.frozen 0
                  have fr1 := ((unhide HM3).x gW rfl).1.frozen 1
                  have xc0 : wk3.cell? ⟨gW, 0, none⟩ = some (.slice none 0 0) := ((unhide HM3).x gW rfl).1.cell 0
                  have xc1 : wk3.cell? ⟨gW, 1, none⟩ = some (.slice none 0 0) := ((unhide HM3).x gW rfl).1.cell 1
                  refine wpAnyT_one (i := 15) (o := { dst := none, op := Op.store 100 (Operand.tmp 14) (Operand.tmp 99), type := 0, pos := "ref.go:191", after := #[{ on := 14, ground := Ground.data }, { on := 13, ground := Ground.data }, { on := 0, ground := Ground.phase }, { on := 1, ground := Ground.phase }, { on := 2, ground := Ground.phase }, { on := 3, ground := Ground.phase }, { on := 4, ground := Ground.phase }, { on := 5, ground := Ground.phase }, { on := 6, ground := Ground.phase }, { on := 7, ground := Ground.phase }, { on := 8, ground := Ground.phase }, { on := 9, ground := Ground.phase }, { on := 10, ground := Ground.phase }, { on := 11, ground := Ground.phase }, { on := 12, ground := Ground.phase }, { on := 13, ground := Ground.phase }, { on := 14, ground := Ground.phase }], guard := none }) (by kernel_rfl) rfl (fun K hK => ?_)
                  go_simp
                  refine hK.out _ _ (fun _ => (unhide HMS).bel) ?_
                  clear hK K
                  try simp only [Act.put, List.setIfInBounds_toArray, List.set_cons_zero, List.set_cons_succ]
                  refine wpAnyT_done (by kernel_rfl) ?_ _
                  exact ⟨rfl, gP, gD, gW, rfl, unhide HMS⟩
            rintro _ wm ⟨gP, gD, gW, rfl, hmk⟩
            have HMK := hide hmk
            clear hmk
            dsimp only
            obtain ⟨m, hm⟩ : ∃ m, n + 1 = m := ⟨_, rfl⟩
            have HQ0 := hide (MQ.start (unhide HMK) (unhide BW) (unhide HOW) hm)
            have HMM := hide hm
            have Tm : (T : Int) < (m : Int) := by omega
            have T0 : (0 : Int) ≤ (T : Int) := by omega
            rw [hm]
            clear HMK BW HOW hcellW hm hw1
            have HQD := hide ((unhide HQ0).call (Below.refl _ _).drew)
            have hxw0 : wm.drew.cell? ⟨gW, 0, none⟩ = some (.slice (some ⟨gP, 0, none⟩) m m) := (unhide HQD).bx.cell 0
            have hxt : wm.drew.cell? ⟨gb, t, none⟩ = some (.int .i64 (T : Int)) := (unhide HQD).cs (unhide HST).2.2
            have HC9 := hide ((unhide HQD).wd.cp (i := T) (q := []) (show (List.replicate m ([] : List (List UInt8)))[T]? = some [] by rw [List.getElem?_replicate, if_pos (by omega)]))
            have hpc := (unhide HC9).1
            have hpf := (unhide HC9).2
            have HQ1 := hide ((unhide HQD).put T (by omega) (sub cs F E))
            have hts : txB (sub cs F E) = TS := by
              have := unhide HTS
              rw [List.take_of_length_le (by rw [sub_len (by omega) (by rw [unhide HNN]; omega)]; have := (unhide HSV).2.1; omega)] at this
              exact this
            rw [hts] at HQ1
            clear hts
            go_wp2_with fail
            refine wp_region_T (S := fun W => Below wm.drew.heap.size wm.drew W) (fun i => decide (i < 8)) (by kernel_rfl) (Below.refl _ _) (fun hHeld => ?_)
            refine wpAnyT_take (i := 0) (oi := { dst := some 100, op := Op.fieldAddr 100 (Operand.tmp 14) 0, type := 0, pos := "ref.go:192", after := #[], guard := none }) (v := .pointer (some ⟨gW, 0, none⟩)) rfl (by kernel_rfl) (by kernel_rfl) (by kernel_rfl) (by kernel_rfl) (fun _ _ _ h => h) (Or.inl ⟨by rfl, ?_⟩) hHeld ?_
            · intro w hSw
              have xa := kept hSw hxw0
              have xt := kept hSw hxt
              first
                | rfl
                | (go_simp; done)
            try simp only [Act.put, List.setIfInBounds_toArray, List.set_cons_zero, List.set_cons_succ]
            refine wpAnyT_take (i := 1) (oi := { dst := some 101, op := Op.load 61 (Operand.tmp 100), type := 61, pos := "ref.go:192", after := #[{ on := 0, ground := Ground.data }], guard := none }) (v := .slice (some ⟨gP, 0, none⟩) m m) rfl (by kernel_rfl) (by kernel_rfl) (by kernel_rfl) (by kernel_rfl) (fun _ _ _ h => h) (Or.inl ⟨by rfl, ?_⟩) hHeld ?_
            · intro w hSw
              have xa := kept hSw hxw0
              have xt := kept hSw hxt
              first
                | rfl
                | (go_simp; done)
            try simp only [Act.put, List.setIfInBounds_toArray, List.set_cons_zero, List.set_cons_succ]
            refine wpAnyT_take (i := 2) (oi := { dst := some 102, op := Op.move (Operand.tmp 10), type := 38, pos := "ref.go:192", after := #[], guard := none }) (v := .slice (some ⟨gb, 0, none⟩) N sc) rfl (by kernel_rfl) (by kernel_rfl) (by kernel_rfl) (by kernel_rfl) (fun _ _ _ h => h) (Or.inl ⟨by rfl, ?_⟩) hHeld ?_
            · intro w hSw
              have xa := kept hSw hxw0
              have xt := kept hSw hxt
              first
                | rfl
                | (go_simp; done)
            try simp only [Act.put, List.setIfInBounds_toArray, List.set_cons_zero, List.set_cons_succ]
            refine wpAnyT_take (i := 3) (oi := { dst := some 103, op := Op.move (Operand.tmp 3), type := 3, pos := "ref.go:192", after := #[], guard := none }) (v := .int .i64 (t : Int)) rfl (by kernel_rfl) (by kernel_rfl) (by kernel_rfl) (by kernel_rfl) (fun _ _ _ h => h) (Or.inl ⟨by rfl, ?_⟩) hHeld ?_
            · intro w hSw
              have xa := kept hSw hxw0
              have xt := kept hSw hxt
              first
                | rfl
                | (go_simp; done)
            try simp only [Act.put, List.setIfInBounds_toArray, List.set_cons_zero, List.set_cons_succ]
            refine wpAnyT_take (i := 4) (oi := { dst := some 104, op := Op.indexAddr 38 (Operand.tmp 102) (Operand.tmp 103), type := 0, pos := "ref.go:192", after := #[{ on := 2, ground := Ground.data }, { on := 3, ground := Ground.data }], guard := none }) (v := .pointer (some ⟨gb, t, none⟩)) rfl (by kernel_rfl) (by kernel_rfl) (by kernel_rfl) (by kernel_rfl) (fun _ _ _ h => h) (Or.inl ⟨by rfl, ?_⟩) hHeld ?_
            · intro w hSw
              have xa := kept hSw hxw0
              have xt := kept hSw hxt
              first
                | rfl
                | (go_simp; done)
            try simp only [Act.put, List.setIfInBounds_toArray, List.set_cons_zero, List.set_cons_succ]
            refine wpAnyT_take (i := 5) (oi := { dst := some 105, op := Op.load 3 (Operand.tmp 104), type := 3, pos := "ref.go:192", after := #[{ on := 4, ground := Ground.data }], guard := none }) (v := .int .i64 (T : Int)) rfl (by kernel_rfl) (by kernel_rfl) (by kernel_rfl) (by kernel_rfl) (fun _ _ _ h => h) (Or.inl ⟨by rfl, ?_⟩) hHeld ?_
            · intro w hSw
              have xa := kept hSw hxw0
              have xt := kept hSw hxt
              first
                | rfl
                | (go_simp; done)
            try simp only [Act.put, List.setIfInBounds_toArray, List.set_cons_zero, List.set_cons_succ]
            refine wpAnyT_take (i := 6) (oi := { dst := some 106, op := Op.move (Operand.tmp 11), type := 9, pos := "ref.go:192", after := #[], guard := none }) (v := .string (TS)) rfl (by kernel_rfl) (by kernel_rfl) (by kernel_rfl) (by kernel_rfl) (fun _ _ _ h => h) (Or.inl ⟨by rfl, ?_⟩) hHeld ?_
            · intro w hSw
              have xa := kept hSw hxw0
              have xt := kept hSw hxt
              first
                | rfl
                | (go_simp; done)
            try simp only [Act.put, List.setIfInBounds_toArray, List.set_cons_zero, List.set_cons_succ]
            refine wpAnyT_take (i := 7) (oi := { dst := some 107, op := Op.indexAddr 61 (Operand.tmp 101) (Operand.tmp 105), type := 0, pos := "ref.go:192", after := #[{ on := 1, ground := Ground.data }, { on := 5, ground := Ground.data }, { on := 0, ground := Ground.phase }, { on := 1, ground := Ground.phase }, { on := 2, ground := Ground.phase }, { on := 3, ground := Ground.phase }, { on := 4, ground := Ground.phase }, { on := 5, ground := Ground.phase }, { on := 6, ground := Ground.phase }], guard := none }) (v := .pointer (some ⟨gP, T, none⟩)) rfl (by kernel_rfl) (by kernel_rfl) (by kernel_rfl) (by kernel_rfl) (fun _ _ _ h => h) (Or.inl ⟨by rfl, ?_⟩) hHeld ?_
            · intro w hSw
              have xa := kept hSw hxw0
              have xt := kept hSw hxt
              first
                | rfl
                | (go_simp; done)
            try simp only [Act.put, List.setIfInBounds_toArray, List.set_cons_zero, List.set_cons_succ]
            refine wpAnyT_one (i := 8) (o := { dst := none, op := Op.store 9 (Operand.tmp 107) (Operand.tmp 106), type := 0, pos := "ref.go:192", after := #[{ on := 7, ground := Ground.data }, { on := 6, ground := Ground.data }, { on := 0, ground := Ground.phase }, { on := 1, ground := Ground.phase }, { on := 2, ground := Ground.phase }, { on := 3, ground := Ground.phase }, { on := 4, ground := Ground.phase }, { on := 5, ground := Ground.phase }, { on := 6, ground := Ground.phase }], guard := none }) (by kernel_rfl) rfl (fun K hK => ?_)
            go_simp
            refine hK.out _ _ (fun h => by cases h) ?_
            clear hK K
            try simp only [Act.put, List.setIfInBounds_toArray, List.set_cons_zero, List.set_cons_succ]
            refine wpAnyT_done (by kernel_rfl) ?_ _
            obtain ⟨wq, hwq⟩ : ∃ z, (wm.setCell ⟨gP, T, none⟩ (.string (TS))).drew = z := ⟨_, rfl⟩
            have HQ1 : Hid (MQ w wq gP gD gW gb m n N sc (sts cs) ((List.replicate m []).set T (sub cs F E)) (List.replicate n false)) := by rw [← hwq]; exact HQ1
            rw [hwq]
            clear hwq hxw0 hxt hpc hpf HC9 HQ0 HQD
            have hcf := (unhide HQ1).cs (unhide HST).1
            go_wp2_with fail
            go_loopw [15] (fun iv wr => ∃ i : Nat, F ≤ i ∧ i ≤ E ∧ iv = .int .i64 (i : Int) ∧ Hid (MQ w wr gP gD gW gb m n N sc (sts cs) ((List.replicate m []).set T (sub cs F E)) (mvD n F i))) (fun iv _ => ((E : Int) - intOf iv).toNat)
            case atStart => exact ⟨F, Nat.le_refl _, by omega, rfl, hide (by rw [mvD_zero (by omega)]; exact unhide HQ1)⟩
            case round =>
              clear HQ1 hcf
              obtain ⟨i, hi1, hi2, rfl, HQ⟩ := hrel
              have hcu := (unhide HQ).cs (unhide HST).2.1
              by_cases c1 : (i : Int) < (E : Int)
              · have hxd : wr.cell? ⟨gW, 1, none⟩ = some (.slice (some ⟨gD, 0, none⟩) n n) := (unhide HQ).bx.cell 1
                obtain ⟨b, hb⟩ : ∃ b, (mvD n F i)[i]? = some b := ⟨_, List.getElem?_eq_getElem (by rw [mvD_len hi1 (by omega)]; omega)⟩
                obtain ⟨xd, fd⟩ := (unhide HQ).wd.cd hb
                have i0 : (0 : Int) ≤ (i : Int) := by omega
                have iN : (i : Int) < (n : Int) := by omega
                have HQ2 := hide ((unhide HQ).step i (by omega) true)
                rw [mvD_step hi1 (by omega)] at HQ2
                clear HQ hb
                go_wp2_with fail
                exact ⟨⟨i + 1, by omega, by omega, by simp, HQ2⟩, by simp [intOf]; omega⟩
              · obtain rfl : E = i := by omega
                have HH := hide (show Cps (sub cs F E) from fun d hd => unhide HCS d (List.mem_of_mem_drop (List.mem_of_mem_take hd)))
                have KC := hide (close_any wr (unhide HQ).wd (by rw [(unhide HQ).pl, (unhide HQ).dl]; exact (unhide HMM).symm) (mv_cps (unhide HH)) (by rw [mv_len (unhide HMM) (by omega) (by omega) (by omega), sub_len (by omega) (by rw [unhide HNN]; omega)]; omega) (Nat.le_trans (toN_le _) (by rw [mv_len (unhide HMM) (by omega) (by omega) (by omega), sub_len (by omega) (by rw [unhide HNN]; omega)]; omega)) (by rw [(unhide HQ).dl]; omega))
                have HB9 := hide (unhide HQ).bel
                have hx0 : wr.cell? ⟨gW, 0, none⟩ = some (.slice (some ⟨gP, 0, none⟩) m m) := (unhide HQ).bx.cell 0
                have hx1 : wr.cell? ⟨gW, 1, none⟩ = some (.slice (some ⟨gD, 0, none⟩) n n) := (unhide HQ).bx.cell 1
                rw [unhide HNN, unhide HMM] at HD
                go_wp2_with fail
                refine Calls.mono (unhide KC) ?_
                rintro r w9 ⟨v, L, rfl, o9, n9, a9, b9⟩
                have HR9 := hide ((unhide HV) _ v L w9 (unhide HB9) o9 n9 (a9.trans (unhide HD)) b9)
                clear o9 n9 a9 b9 KC
                go_wp2_with fail
                go_ret2
                exact unhide HR9
      · have tfI : decide (f < t) = true := decide_eq_true (by omega)
        have tfu : decide (t < u) = false := decide_eq_false (by have := unhide HTF; omega)
        go_wp2_with fail
        go_quiet (fail)
        have BD := hide (Go.Joins.below_draws w1.heap.size w1 nq)
        have B2 := hide ((unhide B1).trans ((unhide BD).mono (unhide B1).size))
        have HC2 := hide (And.intro (kept (unhide BD) (unhide HC3).1) (And.intro (kept (unhide BD) (unhide HC3).2.1) (kept (unhide BD) (unhide HC3).2.2)))
        have HR2 := hide (own_call (unhide HR1) (unhide BD))
        have HO2 := hide (own_call (unhide HO) (unhide BD))
        have hcell2 := kept (unhide BD) hcell1
        clear BD HC3 HO HR1 B1 hcell1
        obtain ⟨w2, hw2⟩ : ∃ z, w1.drewN nq = z := ⟨_, rfl⟩
        rw [hw2] at B2 HC2 HR2 HO2 hcell2 ⊢
        clear hw2 hcf hcfk hct
        obtain ⟨M, hM⟩ : ∃ z, E - F = z := ⟨_, rfl⟩
        obtain ⟨sv, hsv⟩ : ∃ z, (if cr = F then some ({ block := gr, off := 0 } : Addr) else some { block := gr, off := F }) = z := ⟨_, rfl⟩
        obtain ⟨sq, hsq⟩ : ∃ z, cr - F = z := ⟨_, rfl⟩
        rw [hM, hsv, hsq]
        have HSV := hide (And.intro hsv (And.intro hM hsq))
        have hMI : (M : Int) ≤ 1048576 := by omega
        have hMq : (M : Int) ≤ (sq : Int) := by omega
        clear hsv hM hsq
        go_wp2_with fail
        go_loopw [11, 77] (fun tv i wr => ∃ j : Nat, j ≤ M ∧ i = .int .i64 (j : Int) ∧ tv = .string (tb ((sub cs F E).take j)) ∧ Hid (Below w2.heap.size w2 wr)) (fun _ i _ => ((M : Int) - intOf i).toNat)
        case atStart => exact ⟨0, by omega, by simp, rfl, hide (Below.refl _ _)⟩
        case round =>
          obtain ⟨j, hj, rfl, rfl, HB⟩ := hrel
          by_cases c1 : (j : Int) < (M : Int)
          · obtain ⟨c, hc, hnx⟩ := sub_next (cs := cs) (F := F) (E := E) (i := j) (by have := (unhide HSV).2.1; omega) (by rw [unhide HNN]; omega)
            obtain ⟨g9, c9, e, hce, _, _, _⟩ := own_rd (own_call (unhide HR2) (unhide HB)) (rnv_at hc)
            injection e with e1 _ e3
            injection e1 with e1
            injection e1 with e1 _ _
            subst e1 e3
            have hne : ¬ cr = F := by have := (unhide HSV).2.1; omega
            have hs9 := (unhide HSV).1
            rw [if_neg hne] at hs9
            subst hs9
            have HNX := hide (And.intro hc hnx)
            obtain ⟨y, hy⟩ : ∃ y : Int, (rn c : Int) = y := ⟨_, rfl⟩
            rw [hy] at hce
            have hcp : Cps [c] := fun d hd => by rw [List.mem_singleton] at hd; rw [hd]; exact unhide HCS c (List.mem_of_getElem? hc)
            have hsub : Cps ((sub cs F E).take j) := fun d hd => unhide HCS d (List.mem_of_mem_drop (List.mem_of_mem_take (List.mem_of_mem_take hd)))
            have henc : Utf8.encode y = tb [c] := by rw [← hy]; exact (enc_cp hcp.head).trans (txB_one c)
            have hsz : (tb ((sub cs F E).take j)).size + (Utf8.encode y).size ≤ 9223372036854775807 := by
              have z1 := txB_le hsub
              have z2 := txB_le hcp
              rw [henc]
              rw [List.length_take] at z1
              have z3 : (tb ((sub cs F E).take j)).size = (txB ((sub cs F E).take j)).size := rfl
              have z4 : (tb [c]).size = (txB [c]).size := rfl
              rw [List.length_singleton] at z2
              omega
            have HEN := hide henc
            have j0 : (0 : Int) ≤ (j : Int) := by omega
            clear hc hnx hy hne hcp hsub henc
            go_wp2_with fail
            exact ⟨⟨j + 1, by omega, by simp, by rw [unhide HEN, (unhide HNX).2]; exact congrArg Value.string (txB_app _ _), HB⟩, by simp [intOf]; omega⟩
          · obtain rfl : j = M := by omega
            go_wp2_with fail
            have BW := hide ((unhide B2).trans ((unhide HB).mono (unhide B2).size))
            have HOW := hide (own_call (unhide HO2) (unhide HB))
            have hcellW := kept (unhide HB) hcell2
            clear HB HR2 HO2 HC2 B2 hcell2
            obtain ⟨TS, hTS⟩ : ∃ z, tb ((sub cs F E).take j) = z := ⟨_, rfl⟩
            have HTS := hide hTS
            rw [hTS]
            clear hTS
            have HN40 : Hid (n ≤ 1099511627776) := hide (by omega)
            have hw1 : IntKind.i64.wrap ((n : Int) + 1) = ((n + 1 : Nat) : Int) := by rw [IntKind.wrap_i64] <;> omega
            refine reg_post (fun a_ w_ => ∃ gP gD gW, a_ = ({ tmps := #[.pointer (some ⟨g, 0, none⟩), .int .i64 (f : Int), .int .i64 (k : Int), .int .i64 (t : Int), undef, undef, undef, undef, .slice none 0 0, .int .i64 0, .slice (some ⟨gb, 0, none⟩) N sc, .string TS, undef, u13, .pointer (some ⟨gW, 0, none⟩), undef, .pointer (some ⟨g, 0, none⟩), .slice (some ⟨gb, 0, none⟩) N sc, .int .i64 (f : Int), .bool false, .bool false, .int .i64 (k : Int), .bool false, .bool false, .bool false, .int .i64 (f : Int), .slice (some ⟨gb, 0, none⟩) N sc, .int .i64 (N : Int), .bool false, .bool false, .bool false, .int .i64 (k : Int), .slice (some ⟨gb, 0, none⟩) N sc, .int .i64 (N : Int), .int .i64 ((N : Int) - 1), .int .i64 (f : Int), .int .i64 ((N : Int) - 1 - (f : Int)), .bool false, .bool false, .bool false, .int .i64 (t : Int), .bool false, .bool false, .bool false, .int .i64 (t : Int), .slice (some ⟨gb, 0, none⟩) N sc, .int .i64 (N : Int), .bool false, .bool false, .bool false, .int .i64 (t : Int), .int .i64 (f : Int), .bool true, .bool true, .int .i64 (t : Int), .int .i64 (f : Int), .int .i64 (k : Int), .int .i64 (u : Int), .bool false, .bool false, .bool false, .pointer (some ⟨g, 0, none⟩), .pointer (some ⟨g, 0, none⟩), .pointer (some ⟨g, 0, none⟩), .slice (some ⟨gr, 0, none⟩) n cr, .slice (some ⟨gb, 0, none⟩) N sc, .int .i64 (f : Int), .pointer (some ⟨gb, f, none⟩), .int .i64 (F : Int), .slice (some ⟨gb, 0, none⟩) N sc, .int .i64 (f : Int), .int .i64 (k : Int), .int .i64 (u : Int), .pointer (some ⟨gb, u, none⟩), .int .i64 (E : Int), .slice sv j sq, .int .i64 (j : Int), .int .i64 (j : Int), .bool false, u79, u80, u81, u82, u83, u84, u85, .pointer (some ⟨g, 0, none⟩), .pointer (some ⟨g, 0, none⟩), .pointer (some ⟨g, 0, none⟩), .slice (some ⟨gr, 0, none⟩) n cr, .int .i64 (n : Int), .int .i64 ((n + 1 : Nat) : Int), .slice (some ⟨gP, 0, none⟩) (n + 1) (n + 1), .pointer (some ⟨g, 0, none⟩), .pointer (some ⟨g, 0, none⟩), .pointer (some ⟨g, 0, none⟩), .slice (some ⟨gr, 0, none⟩) n cr, .int .i64 (n : Int), .slice (some ⟨gD, 0, none⟩) n n, .agg #[.slice (some ⟨gP, 0, none⟩) (n + 1) (n + 1), .slice (some ⟨gD, 0, none⟩) n n], undef, undef, undef, undef, undef, undef, undef, undef, undef, undef, undef, undef, undef, undef, undef, undef, undef, undef, undef, undef, undef, undef, undef, undef, undef, undef, undef, undef], defers := [] } : Act) ∧ Mkd wr w_ n gP gD gW) ?_ ?_
            · refine wp_region_T (S := fun W => Below wr.heap.size wr W) (fun i => decide (i < 16)) (by kernel_rfl) ((Below.refl _ _).drew) (fun hHeld => ?_)
              refine wpAnyT_take (i := 0) (oi := { dst := some 86, op := Op.move (Operand.tmp 0), type := 28, pos := "ref.go:191", after := #[], guard := none }) (v := .pointer (some ⟨g, 0, none⟩)) rfl (by kernel_rfl) (by kernel_rfl) (by kernel_rfl) (by kernel_rfl) (fun _ _ _ h => by cases h.1) (Or.inl ⟨by rfl, ?_⟩) hHeld ?_
              · intro w hSw
                have xq := kept hSw hcellW
                first
                  | rfl
                  | (go_simp; done)
              try simp only [Act.put, List.setIfInBounds_toArray, List.set_cons_zero, List.set_cons_succ]
              refine wpAnyT_take (i := 1) (oi := { dst := some 87, op := Op.nilCheck (Operand.tmp 86), type := 0, pos := "ref.go:191", after := #[{ on := 0, ground := Ground.data }], guard := none }) (v := .pointer (some ⟨g, 0, none⟩)) rfl (by kernel_rfl) (by kernel_rfl) (by kernel_rfl) (by kernel_rfl) (fun _ _ _ h => by cases h.1) (Or.inl ⟨by rfl, ?_⟩) hHeld ?_
              · intro w hSw
                have xq := kept hSw hcellW
                first
                  | rfl
                  | (go_simp; done)
              try simp only [Act.put, List.setIfInBounds_toArray, List.set_cons_zero, List.set_cons_succ]
              refine wpAnyT_take (i := 2) (oi := { dst := some 88, op := Op.fieldAddr 42 (Operand.tmp 87) 0, type := 0, pos := "ref.go:191", after := #[{ on := 1, ground := Ground.data }], guard := none }) (v := .pointer (some ⟨g, 0, none⟩)) rfl (by kernel_rfl) (by kernel_rfl) (by kernel_rfl) (by kernel_rfl) (fun _ _ _ h => by cases h.1) (Or.inl ⟨by rfl, ?_⟩) hHeld ?_
              · intro w hSw
                have xq := kept hSw hcellW
                first
                  | rfl
                  | (go_simp; done)
              try simp only [Act.put, List.setIfInBounds_toArray, List.set_cons_zero, List.set_cons_succ]
              refine wpAnyT_take (i := 3) (oi := { dst := some 89, op := Op.load 40 (Operand.tmp 88), type := 40, pos := "ref.go:191", after := #[{ on := 2, ground := Ground.data }], guard := none }) (v := .slice (some ⟨gr, 0, none⟩) n cr) rfl (by kernel_rfl) (by kernel_rfl) (by kernel_rfl) (by kernel_rfl) (fun _ _ _ h => by cases h.1) (Or.inl ⟨by rfl, ?_⟩) hHeld ?_
              · intro w hSw
                have xq := kept hSw hcellW
                first
                  | rfl
                  | (go_simp; done)
              try simp only [Act.put, List.setIfInBounds_toArray, List.set_cons_zero, List.set_cons_succ]
              refine wpAnyT_take (i := 4) (oi := { dst := some 90, op := Op.call { callee := Callee.builtin Builtin.len, args := #[Operand.tmp 89], argTypes := #[40] }, type := 3, pos := "ref.go:191", after := #[{ on := 3, ground := Ground.data }], guard := none }) (v := .int .i64 (n : Int)) rfl (by kernel_rfl) (by kernel_rfl) (by kernel_rfl) (by kernel_rfl) (fun _ _ _ h => by cases h.1) (Or.inl ⟨by rfl, ?_⟩) hHeld ?_
              · intro w hSw
                have xq := kept hSw hcellW
                first
                  | rfl
                  | (go_simp; done)
              try simp only [Act.put, List.setIfInBounds_toArray, List.set_cons_zero, List.set_cons_succ]
              refine wpAnyT_take (i := 5) (oi := { dst := some 91, op := Op.binOp BinOp.add 3 (Operand.tmp 90) (Operand.const (Value.int IntKind.i64 1)) 3, type := 3, pos := "ref.go:191", after := #[{ on := 4, ground := Ground.data }], guard := none }) (v := .int .i64 ((n + 1 : Nat) : Int)) rfl (by kernel_rfl) (by kernel_rfl) (by kernel_rfl) (by kernel_rfl) (fun _ _ _ h => by cases h.1) (Or.inl ⟨by rfl, ?_⟩) hHeld ?_
              · intro w hSw
                have xq := kept hSw hcellW
                go_simp
                try simp only [hw1]
                try trivial
                try rfl
              try simp only [Act.put, List.setIfInBounds_toArray, List.set_cons_zero, List.set_cons_succ]
              refine wpAnyT_take (i := 7) (oi := { dst := some 93, op := Op.move (Operand.tmp 0), type := 28, pos := "ref.go:191", after := #[], guard := none }) (v := .pointer (some ⟨g, 0, none⟩)) rfl (by kernel_rfl) (by kernel_rfl) (by kernel_rfl) (by kernel_rfl) (fun _ _ _ h => by cases h.1) (Or.inl ⟨by rfl, ?_⟩) hHeld ?_
              · intro w hSw
                have xq := kept hSw hcellW
                first
                  | rfl
                  | (go_simp; done)
              try simp only [Act.put, List.setIfInBounds_toArray, List.set_cons_zero, List.set_cons_succ]
              refine wpAnyT_take (i := 8) (oi := { dst := some 94, op := Op.nilCheck (Operand.tmp 93), type := 0, pos := "ref.go:191", after := #[{ on := 7, ground := Ground.data }], guard := none }) (v := .pointer (some ⟨g, 0, none⟩)) rfl (by kernel_rfl) (by kernel_rfl) (by kernel_rfl) (by kernel_rfl) (fun _ _ _ h => by cases h.1) (Or.inl ⟨by rfl, ?_⟩) hHeld ?_
              · intro w hSw
                have xq := kept hSw hcellW
                first
                  | rfl
                  | (go_simp; done)
              try simp only [Act.put, List.setIfInBounds_toArray, List.set_cons_zero, List.set_cons_succ]
              refine wpAnyT_take (i := 9) (oi := { dst := some 95, op := Op.fieldAddr 42 (Operand.tmp 94) 0, type := 0, pos := "ref.go:191", after := #[{ on := 8, ground := Ground.data }], guard := none }) (v := .pointer (some ⟨g, 0, none⟩)) rfl (by kernel_rfl) (by kernel_rfl) (by kernel_rfl) (by kernel_rfl) (fun _ _ _ h => by cases h.1) (Or.inl ⟨by rfl, ?_⟩) hHeld ?_
              · intro w hSw
                have xq := kept hSw hcellW
                first
                  | rfl
                  | (go_simp; done)
              try simp only [Act.put, List.setIfInBounds_toArray, List.set_cons_zero, List.set_cons_succ]
              refine wpAnyT_take (i := 10) (oi := { dst := some 96, op := Op.load 40 (Operand.tmp 95), type := 40, pos := "ref.go:191", after := #[{ on := 9, ground := Ground.data }], guard := none }) (v := .slice (some ⟨gr, 0, none⟩) n cr) rfl (by kernel_rfl) (by kernel_rfl) (by kernel_rfl) (by kernel_rfl) (fun _ _ _ h => by cases h.1) (Or.inl ⟨by rfl, ?_⟩) hHeld ?_
              · intro w hSw
                have xq := kept hSw hcellW
                first
                  | rfl
                  | (go_simp; done)
              try simp only [Act.put, List.setIfInBounds_toArray, List.set_cons_zero, List.set_cons_succ]
              refine wpAnyT_take (i := 11) (oi := { dst := some 97, op := Op.call { callee := Callee.builtin Builtin.len, args := #[Operand.tmp 96], argTypes := #[40] }, type := 3, pos := "ref.go:191", after := #[{ on := 10, ground := Ground.data }], guard := none }) (v := .int .i64 (n : Int)) rfl (by kernel_rfl) (by kernel_rfl) (by kernel_rfl) (by kernel_rfl) (fun _ _ _ h => by cases h.1) (Or.inl ⟨by rfl, ?_⟩) hHeld ?_
              · intro w hSw
                have xq := kept hSw hcellW
                first
                  | rfl
                  | (go_simp; done)
              try simp only [Act.put, List.setIfInBounds_toArray, List.set_cons_zero, List.set_cons_succ]
              have HM0 := hide (Mk3.start wr n)
              refine anyT_three (i := 6) (j := 12) (l := 14) (oi := { dst := some 92, op := Op.makeSlice 61 (Operand.tmp 91) (Operand.tmp 91), type := 61, pos := "ref.go:191", after := #[{ on := 5, ground := Ground.data }, { on := 5, ground := Ground.data }], guard := none }) (oj := { dst := some 98, op := Op.makeSlice 98 (Operand.tmp 97) (Operand.tmp 97), type := 98, pos := "ref.go:191", after := #[{ on := 11, ground := Ground.data }, { on := 11, ground := Ground.data }], guard := none }) (ol := { dst := some 14, op := Op.alloc 100, type := 0, pos := "ref.go:191", after := #[], guard := none }) (by kernel_rfl) rfl rfl rfl (fun K hK => ?_) (fun K hK => ?_) (fun K hK => ?_)
              · rw [if_pos (by rfl)]
                refine (unhide HM0).wpP _ _ rfl rfl rfl (unhide HN40) (fun gP wk1 hm => ?_)
                have HM1 := hide hm
                refine hK.out _ _ (fun _ => hm.bel) ?_
                clear hK K hm HM0
                try simp only [Act.put, List.setIfInBounds_toArray, List.set_cons_zero, List.set_cons_succ]
                refine anyU_two (i := 12) (j := 14) (oi := { dst := some 98, op := Op.makeSlice 98 (Operand.tmp 97) (Operand.tmp 97), type := 98, pos := "ref.go:191", after := #[{ on := 11, ground := Ground.data }, { on := 11, ground := Ground.data }], guard := none }) (oj := { dst := some 14, op := Op.alloc 100, type := 0, pos := "ref.go:191", after := #[], guard := none }) (by kernel_rfl) rfl rfl (fun K hK => ?_) (fun K hK => ?_)
                · rw [if_pos (by rfl)]
                  refine (unhide HM1).wpD _ _ rfl rfl rfl (unhide HN40) (fun gD wk2 hm => ?_)
                  have HM2 := hide hm
                  refine hK.out _ _ (fun _ => hm.bel) ?_
                  clear hK K hm HM1
                  try simp only [Act.put, List.setIfInBounds_toArray, List.set_cons_zero, List.set_cons_succ]
                  refine wpAnyT_take (i := 13) (oi := { dst := some 99, op := Op.build 100 #[(0, Operand.tmp 92), (1, Operand.tmp 98)], type := 100, pos := "ref.go:191", after := #[{ on := 6, ground := Ground.data }, { on := 12, ground := Ground.data }], guard := none }) (v := .agg #[.slice (some ⟨gP, 0, none⟩) (n + 1) (n + 1), .slice (some ⟨gD, 0, none⟩) n n]) rfl (by kernel_rfl) (by kernel_rfl) (by kernel_rfl) (by kernel_rfl) (fun _ _ _ h => by cases h.1) (Or.inl ⟨by rfl, ?_⟩) (unhide HM2).bel ?_
                  · intro w hSw
                    first
                      | rfl
                      | (go_simp; done)
                  try simp only [Act.put, List.setIfInBounds_toArray, List.set_cons_zero, List.set_cons_succ]
                  refine wpAnyT_one (i := 14) (o := { dst := some 14, op := Op.alloc 100, type := 0, pos := "ref.go:191", after := #[], guard := none }) (by kernel_rfl) rfl (fun K hK => ?_)
                  rw [if_pos (by rfl)]
                  refine (unhide HM2).wpX rfl (fun gW wk3 hm => ?_)
                  have HM3 := hide hm
                  refine hK.out _ _ (fun _ => hm.bel) ?_
                  clear hK K hm HM2
                  try simp only [Act.put, List.setIfInBounds_toArray, List.set_cons_zero, List.set_cons_succ]
                  have HMS := hide ((unhide HM3).store (unhide HN40))
                  have fr0 := ((unhide HM3).x gW rfl).1.frozen 0
                  have fr1 := ((unhide HM3).x gW rfl).1.frozen 1
                  have xc0 : wk3.cell? ⟨gW, 0, none⟩ = some (.slice none 0 0) := ((unhide HM3).x gW rfl).1.cell 0
                  have xc1 : wk3.cell? ⟨gW, 1, none⟩ = some (.slice none 0 0) := ((unhide HM3).x gW rfl).1.cell 1
                  refine wpAnyT_one (i := 15) (o := { dst := none, op := Op.store 100 (Operand.tmp 14) (Operand.tmp 99), type := 0, pos := "ref.go:191", after := #[{ on := 14, ground := Ground.data }, { on := 13, ground := Ground.data }, { on := 0, ground := Ground.phase }, { on := 1, ground := Ground.phase }, { on := 2, ground := Ground.phase }, { on := 3, ground := Ground.phase }, { on := 4, ground := Ground.phase }, { on := 5, ground := Ground.phase }, { on := 6, ground := Ground.phase }, { on := 7, ground := Ground.phase }, { on := 8, ground := Ground.phase }, { on := 9, ground := Ground.phase }, { on := 10, ground := Ground.phase }, { on := 11, ground := Ground.phase }, { on := 12, ground := Ground.phase }, { on := 13, ground := Ground.phase }, { on := 14, ground := Ground.phase }], guard := none }) (by kernel_rfl) rfl (fun K hK => ?_)
                  go_simp
                  refine hK.out _ _ (fun _ => (unhide HMS).bel) ?_
                  clear hK K
                  try simp only [Act.put, List.setIfInBounds_toArray, List.set_cons_zero, List.set_cons_succ]
                  refine wpAnyT_done (by kernel_rfl) ?_ _
                  exact ⟨rfl, gP, gD, gW, rfl, unhide HMS⟩
                · rw [if_pos (by rfl)]
                  refine (unhide HM1).wpX rfl (fun gW wk2 hm => ?_)
                  have HM2 := hide hm
                  refine hK.out _ _ (fun _ => hm.bel) ?_
                  clear hK K hm HM1
                  try simp only [Act.put, List.setIfInBounds_toArray, List.set_cons_zero, List.set_cons_succ]
                  refine wpAnyT_one (i := 12) (o := { dst := some 98, op := Op.makeSlice 98 (Operand.tmp 97) (Operand.tmp 97), type := 98, pos := "ref.go:191", after := #[{ on := 11, ground := Ground.data }, { on := 11, ground := Ground.data }], guard := none }) (by kernel_rfl) rfl (fun K hK => ?_)
                  rw [if_pos (by rfl)]
                  refine (unhide HM2).wpD _ _ rfl rfl rfl (unhide HN40) (fun gD wk3 hm => ?_)
                  have HM3 := hide hm
                  refine hK.out _ _ (fun _ => hm.bel) ?_
                  clear hK K hm HM2
                  try simp only [Act.put, List.setIfInBounds_toArray, List.set_cons_zero, List.set_cons_succ]
                  refine wpAnyT_take (i := 13) (oi := { dst := some 99, op := Op.build 100 #[(0, Operand.tmp 92), (1, Operand.tmp 98)], type := 100, pos := "ref.go:191", after := #[{ on := 6, ground := Ground.data }, { on := 12, ground := Ground.data }], guard := none }) (v := .agg #[.slice (some ⟨gP, 0, none⟩) (n + 1) (n + 1), .slice (some ⟨gD, 0, none⟩) n n]) rfl (by kernel_rfl) (by kernel_rfl) (by kernel_rfl) (by kernel_rfl) (fun _ _ _ h => by cases h.1) (Or.inl ⟨by rfl, ?_⟩) (unhide HM3).bel ?_
                  · intro w hSw
                    first
                      | rfl
                      | (go_simp; done)
                  try simp only [Act.put, List.setIfInBounds_toArray, List.set_cons_zero, List.set_cons_succ]
                  have HMS := hide ((unhide HM3).store (unhide HN40))
                  have fr0 := ((unhide HM3).x gW rfl).1.frozen 0
                  have fr1 := ((unhide HM3).x gW rfl).1.frozen 1
                  have xc0 : wk3.cell? ⟨gW, 0, none⟩ = some (.slice none 0 0) := ((unhide HM3).x gW rfl).1.cell 0
                  have xc1 : wk3.cell? ⟨gW, 1, none⟩ = some (.slice none 0 0) := ((unhide HM3).x gW rfl).1.cell 1
                  refine wpAnyT_one (i := 15) (o := { dst := none, op := Op.store 100 (Operand.tmp 14) (Operand.tmp 99), type := 0, pos := "ref.go:191", after := #[{ on := 14, ground := Ground.data }, { on := 13, ground := Ground.data }, { on := 0, ground := Ground.phase }, { on := 1, ground := Ground.phase }, { on := 2, ground := Ground.phase }, { on := 3, ground := Ground.phase }, { on := 4, ground := Ground.phase }, { on := 5, ground := Ground.phase }, { on := 6, ground := Ground.phase }, { on := 7, ground := Ground.phase }, { on := 8, ground := Ground.phase }, { on := 9, ground := Ground.phase }, { on := 10, ground := Ground.phase }, { on := 11, ground := Ground.phase }, { on := 12, ground := Ground.phase }, { on := 13, ground := Ground.phase }, { on := 14, ground := Ground.phase }], guard := none }) (by kernel_rfl) rfl (fun K hK => ?_)
                  go_simp
                  refine hK.out _ _ (fun _ => (unhide HMS).bel) ?_
                  clear hK K
                  try simp only [Act.put, List.setIfInBounds_toArray, List.set_cons_zero, List.set_cons_succ]
                  refine wpAnyT_done (by kernel_rfl) ?_ _
                  exact ⟨rfl, gP, gD, gW, rfl, unhide HMS⟩
              · rw [if_pos (by rfl)]
                refine (unhide HM0).wpD _ _ rfl rfl rfl (unhide HN40) (fun gD wk1 hm => ?_)
                have HM1 := hide hm
                refine hK.out _ _ (fun _ => hm.bel) ?_
                clear hK K hm HM0
                try simp only [Act.put, List.setIfInBounds_toArray, List.set_cons_zero, List.set_cons_succ]
                refine anyU_two (i := 6) (j := 14) (oi := { dst := some 92, op := Op.makeSlice 61 (Operand.tmp 91) (Operand.tmp 91), type := 61, pos := "ref.go:191", after := #[{ on := 5, ground := Ground.data }, { on := 5, ground := Ground.data }], guard := none }) (oj := { dst := some 14, op := Op.alloc 100, type := 0, pos := "ref.go:191", after := #[], guard := none }) (by kernel_rfl) rfl rfl (fun K hK => ?_) (fun K hK => ?_)
                · rw [if_pos (by rfl)]
                  refine (unhide HM1).wpP _ _ rfl rfl rfl (unhide HN40) (fun gP wk2 hm => ?_)
                  have HM2 := hide hm
                  refine hK.out _ _ (fun _ => hm.bel) ?_
                  clear hK K hm HM1
                  try simp only [Act.put, List.setIfInBounds_toArray, List.set_cons_zero, List.set_cons_succ]
                  refine wpAnyT_take (i := 13) (oi := { dst := some 99, op := Op.build 100 #[(0, Operand.tmp 92), (1, Operand.tmp 98)], type := 100, pos := "ref.go:191", after := #[{ on := 6, ground := Ground.data }, { on := 12, ground := Ground.data }], guard := none }) (v := .agg #[.slice (some ⟨gP, 0, none⟩) (n + 1) (n + 1), .slice (some ⟨gD, 0, none⟩) n n]) rfl (by kernel_rfl) (by kernel_rfl) (by kernel_rfl) (by kernel_rfl) (fun _ _ _ h => by cases h.1) (Or.inl ⟨by rfl, ?_⟩) (unhide HM2).bel ?_
                  · intro w hSw
                    first
                      | rfl
                      | (go_simp; done)
                  try simp only [Act.put, List.setIfInBounds_toArray, List.set_cons_zero, List.set_cons_succ]
                  refine wpAnyT_one (i := 14) (o := { dst := some 14, op := Op.alloc 100, type := 0, pos := "ref.go:191", after := #[], guard := none }) (by kernel_rfl) rfl (fun K hK => ?_)
                  rw [if_pos (by rfl)]
                  refine (unhide HM2).wpX rfl (fun gW wk3 hm => ?_)
                  have HM3 := hide hm
                  refine hK.out _ _ (fun _ => hm.bel) ?_
                  clear hK K hm HM2
                  try simp only [Act.put, List.setIfInBounds_toArray, List.set_cons_zero, List.set_cons_succ]
                  have HMS := hide ((unhide HM3).store (unhide HN40))
                  have fr0 := ((unhide HM3).x gW rfl).1.frozen 0
                  have fr1 := ((unhide HM3).x gW rfl).1.frozen 1
                  have xc0 : wk3.cell? ⟨gW, 0, none⟩ = some (.slice none 0 0) := ((unhide HM3).x gW rfl).1.cell 0
                  have xc1 : wk3.cell? ⟨gW, 1, none⟩ = some (.slice none 0 0) := ((unhide HM3).x gW rfl).1.cell 1
                  refine wpAnyT_one (i := 15) (o := { dst := none, op := Op.store 100 (Operand.tmp 14) (Operand.tmp 99), type := 0, pos := "ref.go:191", after := #[{ on := 14, ground := Ground.data }, { on := 13, ground := Ground.data }, { on := 0, ground := Ground.phase }, { on := 1, ground := Ground.phase }, { on := 2, ground := Ground.phase }, { on := 3, ground := Ground.phase }, { on := 4, ground := Ground.phase }, { on := 5, ground := Ground.phase }, { on := 6, ground := Ground.phase }, { on := 7, ground := Ground.phase }, { on := 8, ground := Ground.phase }, { on := 9, ground := Ground.phase }, { on := 10, ground := Ground.phase }, { on := 11, ground := Ground.phase }, { on := 12, ground := Ground.phase }, { on := 13, ground := Ground.phase }, { on := 14, ground := Ground.phase }], guard := none }) (by kernel_rfl) rfl (fun K hK => ?_)
                  go_simp
                  refine hK.out _ _ (fun _ => (unhide HMS).bel) ?_
                  clear hK K
                  try simp only [Act.put, List.setIfInBounds_toArray, List.set_cons_zero, List.set_cons_succ]
                  refine wpAnyT_done (by kernel_rfl) ?_ _
                  exact ⟨rfl, gP, gD, gW, rfl, unhide HMS⟩
                · rw [if_pos (by rfl)]
                  refine (unhide HM1).wpX rfl (fun gW wk2 hm => ?_)
                  have HM2 := hide hm
                  refine hK.out _ _ (fun _ => hm.bel) ?_
                  clear hK K hm HM1
                  try simp only [Act.put, List.setIfInBounds_toArray, List.set_cons_zero, List.set_cons_succ]
                  refine wpAnyT_one (i := 6) (o := { dst := some 92, op := Op.makeSlice 61 (Operand.tmp 91) (Operand.tmp 91), type := 61, pos := "ref.go:191", after := #[{ on := 5, ground := Ground.data }, { on := 5, ground := Ground.data }], guard := none }) (by kernel_rfl) rfl (fun K hK => ?_)
                  rw [if_pos (by rfl)]
                  refine (unhide HM2).wpP _ _ rfl rfl rfl (unhide HN40) (fun gP wk3 hm => ?_)
                  have HM3 := hide hm
                  refine hK.out _ _ (fun _ => hm.bel) ?_
                  clear hK K hm HM2
                  try simp only [Act.put, List.setIfInBounds_toArray, List.set_cons_zero, List.set_cons_succ]
                  refine wpAnyT_take (i := 13) (oi := { dst := some 99, op := Op.build 100 #[(0, Operand.tmp 92), (1, Operand.tmp 98)], type := 100, pos := "ref.go:191", after := #[{ on := 6, ground := Ground.data }, { on := 12, ground := Ground.data }], guard := none }) (v := .agg #[.slice (some ⟨gP, 0, none⟩) (n + 1) (n + 1), .slice (some ⟨gD, 0, none⟩) n n]) rfl (by kernel_rfl) (by kernel_rfl) (by kernel_rfl) (by kernel_rfl) (fun _ _ _ h => by cases h.1) (Or.inl ⟨by rfl, ?_⟩) (unhide HM3).bel ?_
                  · intro w hSw
                    first
                      | rfl
                      | (go_simp; done)
                  try simp only [Act.put, List.setIfInBounds_toArray, List.set_cons_zero, List.set_cons_succ]
                  have HMS := hide ((unhide HM3).store (unhide HN40))
                  have fr0 := ((unhide HM3).x gW rfl).1.frozen 0
                  have fr1 := ((unhide HM3).x gW rfl).1.frozen 1
                  have xc0 : wk3.cell? ⟨gW, 0, none⟩ = some (.slice none 0 0) := ((unhide HM3).x gW rfl).1.cell 0
                  have xc1 : wk3.cell? ⟨gW, 1, none⟩ = some (.slice none 0 0) := ((unhide HM3).x gW rfl).1.cell 1
                  refine wpAnyT_one (i := 15) (o := { dst := none, op := Op.store 100 (Operand.tmp 14) (Operand.tmp 99), type := 0, pos := "ref.go:191", after := #[{ on := 14, ground := Ground.data }, { on := 13, ground := Ground.data }, { on := 0, ground := Ground.phase }, { on := 1, ground := Ground.phase }, { on := 2, ground := Ground.phase }, { on := 3, ground := Ground.phase }, { on := 4, ground := Ground.phase }, { on := 5, ground := Ground.phase }, { on := 6, ground := Ground.phase }, { on := 7, ground := Ground.phase }, { on := 8, ground := Ground.phase }, { on := 9, ground := Ground.phase }, { on := 10, ground := Ground.phase }, { on := 11, ground := Ground.phase }, { on := 12, ground := Ground.phase }, { on := 13, ground := Ground.phase }, { on := 14, ground := Ground.phase }], guard := none }) (by kernel_rfl) rfl (fun K hK => ?_)
                  go_simp
                  refine hK.out _ _ (fun _ => (unhide HMS).bel) ?_
                  clear hK K
                  try simp only [Act.put, List.setIfInBounds_toArray, List.set_cons_zero, List.set_cons_succ]
                  refine wpAnyT_done (by kernel_rfl) ?_ _
                  exact ⟨rfl, gP, gD, gW, rfl, unhide HMS⟩
              · rw [if_pos (by rfl)]
                refine (unhide HM0).wpX rfl (fun gW wk1 hm => ?_)
                have HM1 := hide hm
                refine hK.out _ _ (fun _ => hm.bel) ?_
                clear hK K hm HM0
                try simp only [Act.put, List.setIfInBounds_toArray, List.set_cons_zero, List.set_cons_succ]
                refine anyU_two (i := 6) (j := 12) (oi := { dst := some 92, op := Op.makeSlice 61 (Operand.tmp 91) (Operand.tmp 91), type := 61, pos := "ref.go:191", after := #[{ on := 5, ground := Ground.data }, { on := 5, ground := Ground.data }], guard := none }) (oj := { dst := some 98, op := Op.makeSlice 98 (Operand.tmp 97) (Operand.tmp 97), type := 98, pos := "ref.go:191", after := #[{ on := 11, ground := Ground.data }, { on := 11, ground := Ground.data }], guard := none }) (by kernel_rfl) rfl rfl (fun K hK => ?_) (fun K hK => ?_)
                · rw [if_pos (by rfl)]
                  refine (unhide HM1).wpP _ _ rfl rfl rfl (unhide HN40) (fun gP wk2 hm => ?_)
                  have HM2 := hide hm
                  refine hK.out _ _ (fun _ => hm.bel) ?_
                  clear hK K hm HM1
                  try simp only [Act.put, List.setIfInBounds_toArray, List.set_cons_zero, List.set_cons_succ]
                  refine wpAnyT_one (i := 12) (o := { dst := some 98, op := Op.makeSlice 98 (Operand.tmp 97) (Operand.tmp 97), type := 98, pos := "ref.go:191", after := #[{ on := 11, ground := Ground.data }, { on := 11, ground := Ground.data }], guard := none }) (by kernel_rfl) rfl (fun K hK => ?_)
                  rw [if_pos (by rfl)]
                  refine (unhide HM2).wpD _ _ rfl rfl rfl (unhide HN40) (fun gD wk3 hm => ?_)
                  have HM3 := hide hm
                  refine hK.out _ _ (fun _ => hm.bel) ?_
                  clear hK K hm HM2
                  try simp only [Act.put, List.setIfInBounds_toArray, List.set_cons_zero, List.set_cons_succ]
                  refine wpAnyT_take (i := 13) (oi := { dst := some 99, op := Op.build 100 #[(0, Operand.tmp 92), (1, Operand.tmp 98)], type := 100, pos := "ref.go:191", after := #[{ on := 6, ground := Ground.data }, { on := 12, ground := Ground.data }], guard := none }) (v := .agg #[.slice (some ⟨gP, 0, none⟩) (n + 1) (n + 1), .slice (some ⟨gD, 0, none⟩) n n]) rfl (by kernel_rfl) (by kernel_rfl) (by kernel_rfl) (by kernel_rfl) (fun _ _ _ h => by cases h.1) (Or.inl ⟨by rfl, ?_⟩) (unhide HM3).bel ?_
                  · intro w hSw
                    first
                      | rfl
                      | (go_simp; done)
                  try simp only [Act.put, List.setIfInBounds_toArray, List.set_cons_zero, List.set_cons_succ]
                  have HMS := hide ((unhide HM3).store (unhide HN40))
                  have fr0 := ((unhide HM3).x gW rfl).1.frozen 0
                  have fr1 := ((unhide HM3).x gW rfl).1.frozen 1
                  have xc0 : wk3.cell? ⟨gW, 0, none⟩ = some (.slice none 0 0) := ((unhide HM3).x gW rfl).1.cell 0
                  have xc1 : wk3.cell? ⟨gW, 1, none⟩ = some (.slice none 0 0) := ((unhide HM3).x gW rfl).1.cell 1
                  refine wpAnyT_one (i := 15) (o := { dst := none, op := Op.store 100 (Operand.tmp 14) (Operand.tmp 99), type := 0, pos := "ref.go:191", after := #[{ on := 14, ground := Ground.data }, { on := 13, ground := Ground.data }, { on := 0, ground := Ground.phase }, { on := 1, ground := Ground.phase }, { on := 2, ground := Ground.phase }, { on := 3, ground := Ground.phase }, { on := 4, ground := Ground.phase }, { on := 5, ground := Ground.phase }, { on := 6, ground := Ground.phase }, { on := 7, ground := Ground.phase }, { on := 8, ground := Ground.phase }, { on := 9, ground := Ground.phase }, { on := 10, ground := Ground.phase }, { on := 11, ground := Ground.phase }, { on := 12, ground := Ground.phase }, { on := 13, ground := Ground.phase }, { on := 14, ground := Ground.phase }], guard := none }) (by kernel_rfl) rfl (fun K hK => ?_)
                  go_simp
                  refine hK.out _ _ (fun _ => (unhide HMS).bel) ?_
                  clear hK K
                  try simp only [Act.put, List.setIfInBounds_toArray, List.set_cons_zero, List.set_cons_succ]
                  refine wpAnyT_done (by kernel_rfl) ?_ _
                  exact ⟨rfl, gP, gD, gW, rfl, unhide HMS⟩
                · rw [if_pos (by rfl)]
                  refine (unhide HM1).wpD _ _ rfl rfl rfl (unhide HN40) (fun gD wk2 hm => ?_)
                  have HM2 := hide hm
                  refine hK.out _ _ (fun _ => hm.bel) ?_
                  clear hK K hm HM1
                  try simp only [Act.put, List.setIfInBounds_toArray, List.set_cons_zero, List.set_cons_succ]
                  refine wpAnyT_one (i := 6) (o := { dst := some 92, op := Op.makeSlice 61 (Operand.tmp 91) (Operand.tmp 91), type := 61, pos := "ref.go:191", after := #[{ on := 5, ground := Ground.data }, { on := 5, ground := Ground.data }], guard := none }) (by kernel_rfl) rfl (fun K hK => ?_)
                  rw [if_pos (by rfl)]
                  refine (unhide HM2).wpP _ _ rfl rfl rfl (unhide HN40) (fun gP wk3 hm => ?_)
                  have HM3 := hide hm
                  refine hK.out _ _ (fun _ => hm.bel) ?_
                  clear hK K hm HM2
                  try simp only [Act.put, List.setIfInBounds_toArray, List.set_cons_zero, List.set_cons_succ]
                  refine wpAnyT_take (i := 13) (oi := { dst := some 99, op := Op.build 100 #[(0, Operand.tmp 92), (1, Operand.tmp 98)], type := 100, pos := "ref.go:191", after := #[{ on := 6, ground := Ground.data }, { on := 12, ground := Ground.data }], guard := none }) (v := .agg #[.slice (some ⟨gP, 0, none⟩) (n + 1) (n + 1), .slice (some ⟨gD, 0, none⟩) n n]) rfl (by kernel_rfl) (by kernel_rfl) (by kernel_rfl) (by kernel_rfl) (fun _ _ _ h => by cases h.1) (Or.inl ⟨by rfl, ?_⟩) (unhide HM3).bel ?_
                  · intro w hSw
                    first
                      | rfl
                      | (go_simp; done)
                  try simp only [Act.put, List.setIfInBounds_toArray, List.set_cons_zero, List.set_cons_succ]
                  have HMS := hide ((unhide HM3).store (unhide HN40))
                  have fr0 := ((unhide HM3).x gW rfl).1.frozen 0
                  have fr1 := ((unhide HM3).x gW rfl).1.frozen 1
                  have xc0 : wk3.cell? ⟨gW, 0, none⟩ = some (.slice none 0 0) := ((unhide HM3).x gW rfl).1.cell 0
                  have xc1 : wk3.cell? ⟨gW, 1, none⟩ = some (.slice none 0 0) := ((unhide HM3).x gW rfl).1.cell 1
                  refine wpAnyT_one (i := 15) (o := { dst := none, op := Op.store 100 (Operand.tmp 14) (Operand.tmp 99), type := 0, pos := "ref.go:191", after := #[{ on := 14, ground := Ground.data }, { on := 13, ground := Ground.data }, { on := 0, ground := Ground.phase }, { on := 1, ground := Ground.phase }, { on := 2, ground := Ground.phase }, { on := 3, ground := Ground.phase }, { on := 4, ground := Ground.phase }, { on := 5, ground := Ground.phase }, { on := 6, ground := Ground.phase }, { on := 7, ground := Ground.phase }, { on := 8, ground := Ground.phase }, { on := 9, ground := Ground.phase }, { on := 10, ground := Ground.phase }, { on := 11, ground := Ground.phase }, { on := 12, ground := Ground.phase }, { on := 13, ground := Ground.phase }, { on := 14, ground := Ground.phase }], guard := none }) (by kernel_rfl) rfl (fun K hK => ?_)
                  go_simp
                  refine hK.out _ _ (fun _ => (unhide HMS).bel) ?_
                  clear hK K
                  try simp only [Act.put, List.setIfInBounds_toArray, List.set_cons_zero, List.set_cons_succ]
                  refine wpAnyT_done (by kernel_rfl) ?_ _
                  exact ⟨rfl, gP, gD, gW, rfl, unhide HMS⟩
            rintro _ wm ⟨gP, gD, gW, rfl, hmk⟩
            have HMK := hide hmk
            clear hmk
            dsimp only
            obtain ⟨m, hm⟩ : ∃ m, n + 1 = m := ⟨_, rfl⟩
            have HQ0 := hide (MQ.start (unhide HMK) (unhide BW) (unhide HOW) hm)
            have HMM := hide hm
            have Tm : (T : Int) < (m : Int) := by omega
            have T0 : (0 : Int) ≤ (T : Int) := by omega
            rw [hm]
            clear HMK BW HOW hcellW hm hw1
            have HQD := hide ((unhide HQ0).call (Below.refl _ _).drew)
            have hxw0 : wm.drew.cell? ⟨gW, 0, none⟩ = some (.slice (some ⟨gP, 0, none⟩) m m) := (unhide HQD).bx.cell 0
            have hxt : wm.drew.cell? ⟨gb, t, none⟩ = some (.int .i64 (T : Int)) := (unhide HQD).cs (unhide HST).2.2
            have HC9 := hide ((unhide HQD).wd.cp (i := T) (q := []) (show (List.replicate m ([] : List (List UInt8)))[T]? = some [] by rw [List.getElem?_replicate, if_pos (by omega)]))
            have hpc := (unhide HC9).1
            have hpf := (unhide HC9).2
            have HQ1 := hide ((unhide HQD).put T (by omega) (sub cs F E))
            have hts : txB (sub cs F E) = TS := by
              have := unhide HTS
              rw [List.take_of_length_le (by rw [sub_len (by omega) (by rw [unhide HNN]; omega)]; have := (unhide HSV).2.1; omega)] at this
              exact this
            rw [hts] at HQ1
            clear hts
            go_wp2_with fail
            refine wp_region_T (S := fun W => Below wm.drew.heap.size wm.drew W) (fun i => decide (i < 8)) (by kernel_rfl) (Below.refl _ _) (fun hHeld => ?_)
            refine wpAnyT_take (i := 0) (oi := { dst := some 100, op := Op.fieldAddr 100 (Operand.tmp 14) 0, type := 0, pos := "ref.go:192", after := #[], guard := none }) (v := .pointer (some ⟨gW, 0, none⟩)) rfl (by kernel_rfl) (by kernel_rfl) (by kernel_rfl) (by kernel_rfl) (fun _ _ _ h => h) (Or.inl ⟨by rfl, ?_⟩) hHeld ?_
            · intro w hSw
              have xa := kept hSw hxw0
              have xt := kept hSw hxt
              first
                | rfl
                | (go_simp; done)
            try simp only [Act.put, List.setIfInBounds_toArray, List.set_cons_zero, List.set_cons_succ]
            refine wpAnyT_take (i := 1) (oi := { dst := some 101, op := Op.load 61 (Operand.tmp 100), type := 61, pos := "ref.go:192", after := #[{ on := 0, ground := Ground.data }], guard := none }) (v := .slice (some ⟨gP, 0, none⟩) m m) rfl (by kernel_rfl) (by kernel_rfl) (by kernel_rfl) (by kernel_rfl) (fun _ _ _ h => h) (Or.inl ⟨by rfl, ?_⟩) hHeld ?_
            · intro w hSw
              have xa := kept hSw hxw0
              have xt := kept hSw hxt
              first
                | rfl
                | (go_simp; done)
            try simp only [Act.put, List.setIfInBounds_toArray, List.set_cons_zero, List.set_cons_succ]
            refine wpAnyT_take (i := 2) (oi := { dst := some 102, op := Op.move (Operand.tmp 10), type := 38, pos := "ref.go:192", after := #[], guard := none }) (v := .slice (some ⟨gb, 0, none⟩) N sc) rfl (by kernel_rfl) (by kernel_rfl) (by kernel_rfl) (by kernel_rfl) (fun _ _ _ h => h) (Or.inl ⟨by rfl, ?_⟩) hHeld ?_
            · intro w hSw
              have xa := kept hSw hxw0
              have xt := kept hSw hxt
              first
                | rfl
                | (go_simp; done)
            try simp only [Act.put, List.setIfInBounds_toArray, List.set_cons_zero, List.set_cons_succ]
            refine wpAnyT_take (i := 3) (oi := { dst := some 103, op := Op.move (Operand.tmp 3), type := 3, pos := "ref.go:192", after := #[], guard := none }) (v := .int .i64 (t : Int)) rfl (by kernel_rfl) (by kernel_rfl) (by kernel_rfl) (by kernel_rfl) (fun _ _ _ h => h) (Or.inl ⟨by rfl, ?_⟩) hHeld ?_
            · intro w hSw
              have xa := kept hSw hxw0
              have xt := kept hSw hxt
              first
                | rfl
                | (go_simp; done)
            try simp only [Act.put, List.setIfInBounds_toArray, List.set_cons_zero, List.set_cons_succ]
            refine wpAnyT_take (i := 4) (oi := { dst := some 104, op := Op.indexAddr 38 (Operand.tmp 102) (Operand.tmp 103), type := 0, pos := "ref.go:192", after := #[{ on := 2, ground := Ground.data }, { on := 3, ground := Ground.data }], guard := none }) (v := .pointer (some ⟨gb, t, none⟩)) rfl (by kernel_rfl) (by kernel_rfl) (by kernel_rfl) (by kernel_rfl) (fun _ _ _ h => h) (Or.inl ⟨by rfl, ?_⟩) hHeld ?_
            · intro w hSw
              have xa := kept hSw hxw0
              have xt := kept hSw hxt
              first
                | rfl
                | (go_simp; done)
            try simp only [Act.put, List.setIfInBounds_toArray, List.set_cons_zero, List.set_cons_succ]
            refine wpAnyT_take (i := 5) (oi := { dst := some 105, op := Op.load 3 (Operand.tmp 104), type := 3, pos := "ref.go:192", after := #[{ on := 4, ground := Ground.data }], guard := none }) (v := .int .i64 (T : Int)) rfl (by kernel_rfl) (by kernel_rfl) (by kernel_rfl) (by kernel_rfl) (fun _ _ _ h => h) (Or.inl ⟨by rfl, ?_⟩) hHeld ?_
            · intro w hSw
              have xa := kept hSw hxw0
              have xt := kept hSw hxt
              first
                | rfl
                | (go_simp; done)
            try simp only [Act.put, List.setIfInBounds_toArray, List.set_cons_zero, List.set_cons_succ]
            refine wpAnyT_take (i := 6) (oi := { dst := some 106, op := Op.move (Operand.tmp 11), type := 9, pos := "ref.go:192", after := #[], guard := none }) (v := .string (TS)) rfl (by kernel_rfl) (by kernel_rfl) (by kernel_rfl) (by kernel_rfl) (fun _ _ _ h => h) (Or.inl ⟨by rfl, ?_⟩) hHeld ?_
            · intro w hSw
              have xa := kept hSw hxw0
              have xt := kept hSw hxt
              first
                | rfl
                | (go_simp; done)
            try simp only [Act.put, List.setIfInBounds_toArray, List.set_cons_zero, List.set_cons_succ]
            refine wpAnyT_take (i := 7) (oi := { dst := some 107, op := Op.indexAddr 61 (Operand.tmp 101) (Operand.tmp 105), type := 0, pos := "ref.go:192", after := #[{ on := 1, ground := Ground.data }, { on := 5, ground := Ground.data }, { on := 0, ground := Ground.phase }, { on := 1, ground := Ground.phase }, { on := 2, ground := Ground.phase }, { on := 3, ground := Ground.phase }, { on := 4, ground := Ground.phase }, { on := 5, ground := Ground.phase }, { on := 6, ground := Ground.phase }], guard := none }) (v := .pointer (some ⟨gP, T, none⟩)) rfl (by kernel_rfl) (by kernel_rfl) (by kernel_rfl) (by kernel_rfl) (fun _ _ _ h => h) (Or.inl ⟨by rfl, ?_⟩) hHeld ?_
            · intro w hSw
              have xa := kept hSw hxw0
              have xt := kept hSw hxt
              first
                | rfl
                | (go_simp; done)
            try simp only [Act.put, List.setIfInBounds_toArray, List.set_cons_zero, List.set_cons_succ]
            refine wpAnyT_one (i := 8) (o := { dst := none, op := Op.store 9 (Operand.tmp 107) (Operand.tmp 106), type := 0, pos := "ref.go:192", after := #[{ on := 7, ground := Ground.data }, { on := 6, ground := Ground.data }, { on := 0, ground := Ground.phase }, { on := 1, ground := Ground.phase }, { on := 2, ground := Ground.phase }, { on := 3, ground := Ground.phase }, { on := 4, ground := Ground.phase }, { on := 5, ground := Ground.phase }, { on := 6, ground := Ground.phase }], guard := none }) (by kernel_rfl) rfl (fun K hK => ?_)
            go_simp
            refine hK.out _ _ (fun h => by cases h) ?_
            clear hK K
            try simp only [Act.put, List.setIfInBounds_toArray, List.set_cons_zero, List.set_cons_succ]
            refine wpAnyT_done (by kernel_rfl) ?_ _
            obtain ⟨wq, hwq⟩ : ∃ z, (wm.setCell ⟨gP, T, none⟩ (.string (TS))).drew = z := ⟨_, rfl⟩
            have HQ1 : Hid (MQ w wq gP gD gW gb m n N sc (sts cs) ((List.replicate m []).set T (sub cs F E)) (List.replicate n false)) := by rw [← hwq]; exact HQ1
            rw [hwq]
            clear hwq hxw0 hxt hpc hpf HC9 HQ0 HQD
            have hcf := (unhide HQ1).cs (unhide HST).1
            go_wp2_with fail
            go_loopw [15] (fun iv wr => ∃ i : Nat, F ≤ i ∧ i ≤ E ∧ iv = .int .i64 (i : Int) ∧ Hid (MQ w wr gP gD gW gb m n N sc (sts cs) ((List.replicate m []).set T (sub cs F E)) (mvD n F i))) (fun iv _ => ((E : Int) - intOf iv).toNat)
            case atStart => exact ⟨F, Nat.le_refl _, by omega, rfl, hide (by rw [mvD_zero (by omega)]; exact unhide HQ1)⟩
            case round =>
              clear HQ1 hcf
              obtain ⟨i, hi1, hi2, rfl, HQ⟩ := hrel
              have hcu := (unhide HQ).cs (unhide HST).2.1
              by_cases c1 : (i : Int) < (E : Int)
              · have hxd : wr.cell? ⟨gW, 1, none⟩ = some (.slice (some ⟨gD, 0, none⟩) n n) := (unhide HQ).bx.cell 1
                obtain ⟨b, hb⟩ : ∃ b, (mvD n F i)[i]? = some b := ⟨_, List.getElem?_eq_getElem (by rw [mvD_len hi1 (by omega)]; omega)⟩
                obtain ⟨xd, fd⟩ := (unhide HQ).wd.cd hb
                have i0 : (0 : Int) ≤ (i : Int) := by omega
                have iN : (i : Int) < (n : Int) := by omega
                have HQ2 := hide ((unhide HQ).step i (by omega) true)
                rw [mvD_step hi1 (by omega)] at HQ2
                clear HQ hb
                go_wp2_with fail
                exact ⟨⟨i + 1, by omega, by omega, by simp, HQ2⟩, by simp [intOf]; omega⟩
              · obtain rfl : E = i := by omega
                have HH := hide (show Cps (sub cs F E) from fun d hd => unhide HCS d (List.mem_of_mem_drop (List.mem_of_mem_take hd)))
                have KC := hide (close_any wr (unhide HQ).wd (by rw [(unhide HQ).pl, (unhide HQ).dl]; exact (unhide HMM).symm) (mv_cps (unhide HH)) (by rw [mv_len (unhide HMM) (by omega) (by omega) (by omega), sub_len (by omega) (by rw [unhide HNN]; omega)]; omega) (Nat.le_trans (toN_le _) (by rw [mv_len (unhide HMM) (by omega) (by omega) (by omega), sub_len (by omega) (by rw [unhide HNN]; omega)]; omega)) (by rw [(unhide HQ).dl]; omega))
                have HB9 := hide (unhide HQ).bel
                have hx0 : wr.cell? ⟨gW, 0, none⟩ = some (.slice (some ⟨gP, 0, none⟩) m m) := (unhide HQ).bx.cell 0
                have hx1 : wr.cell? ⟨gW, 1, none⟩ = some (.slice (some ⟨gD, 0, none⟩) n n) := (unhide HQ).bx.cell 1
                rw [unhide HNN, unhide HMM] at HD
                go_wp2_with fail
                refine Calls.mono (unhide KC) ?_
                rintro r w9 ⟨v, L, rfl, o9, n9, a9, b9⟩
                have HR9 := hide ((unhide HV) _ v L w9 (unhide HB9) o9 n9 (a9.trans (unhide HD)) b9)
                clear o9 n9 a9 b9 KC
                go_wp2_with fail
                go_ret2
                exact unhide HR9

end Go.Proofs.YtdnbhomjfgpcfaaDoor
