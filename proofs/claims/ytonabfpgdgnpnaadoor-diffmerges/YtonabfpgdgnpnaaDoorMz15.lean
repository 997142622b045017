/- Parts of the walk: Met. -/
import Derived.Test.YtonabfpgdgnpnaaDoorMz14
namespace Go.Proofs.YtonabfpgdgnpnaaDoor
set_option linter.unusedVariables false
set_option linter.unusedSimpArgs false
open Go.ChangeShapes Go.WideShapes Go.ChangeAt Go.RowKit Go.Joins Go.Deep

/-- the lists of a wide edit that grows -/
structure ZL (P : List (List (List UInt8))) (D : List Bool) (x : List At) : Prop where
  pl : P.length = D.length + 1
  cps : ∀ q ∈ P, Cps q
  eq : wAts P D = x
theorem ZL.start : ZL [[]] [] [] := ⟨rfl, (fun q hq => by rw [List.mem_singleton] at hq; rw [hq]; exact Cps.nil), rfl⟩
theorem ZL.next {P : List (List (List UInt8))} {D : List Bool} {x : List At} (h : ZL P D x) (b : Bool) : ZL (P ++ [[]]) (D ++ [b]) (x ++ [stp b]) := by
  refine ⟨by rw [List.length_append, List.length_append, h.pl]; rfl, fun q hq => ?_, by rw [wAts_next h.pl, h.eq]⟩
  rcases List.mem_append.1 hq with hq | hq
  · exact h.cps q hq
  · rw [List.mem_singleton] at hq; rw [hq]; exact Cps.nil
theorem ZL.more {P : List (List (List UInt8))} {D : List Bool} {x : List At} (h : ZL P D x) {q r : List (List UInt8)} (hq : P[D.length]? = some q) (hr : Cps r) : ZL (P.set D.length (q ++ r)) D (x ++ r.map .p) := by
  rcases List.eq_nil_or_concat P with rfl | ⟨P', q', rfl⟩
  · simp at hq
  · rw [List.concat_eq_append] at *
    have hl : P'.length = D.length := by have := h.pl; simpa using this
    have e : q' = q := by rw [← hl] at hq; simpa using hq
    subst e
    have e2 : (P' ++ [q']).set D.length (q' ++ r) = P' ++ [q' ++ r] := by rw [← hl]; simp
    rw [e2]
    refine ⟨by simp [hl], fun z hz => ?_, by rw [wAts_more hl, h.eq]⟩
    rcases List.mem_append.1 hz with hz | hz
    · exact h.cps z (List.mem_append_left _ hz)
    · rw [List.mem_singleton] at hz; rw [hz]; exact (h.cps q' (by simp)).append hr
theorem ZL.last {P : List (List (List UInt8))} {D : List Bool} {x : List At} (h : ZL P D x) : ∃ q, P[D.length]? = some q ∧ Cps q ∧ q.length ≤ x.length ∧ D.length ≤ x.length := by
  obtain ⟨q, hq⟩ : ∃ z, P[D.length]? = some z := ⟨_, List.getElem?_eq_getElem (by rw [h.pl]; omega)⟩
  refine ⟨q, hq, h.cps q (List.mem_of_getElem? hq), ?_, ?_⟩
  · rw [← h.eq]; exact wPre_long P D _ q hq h.pl
  · rw [← h.eq]
    have h1 := wAts_from P D h.pl
    have h2 : At.fromN (wAts P D) ≤ (wAts P D).length := by
      have : ∀ y : List At, At.fromN y ≤ y.length := fun y => by
        induction y with
        | nil => simp [At.fromN]
        | cons s y ih => cases s <;> simp only [At.fromN, List.length_cons] <;> omega
      exact this _
    omega
theorem apM_le {x y T : List At} (h : x ++ y = T) {M : Nat} (hM : T.length ≤ M) : x.length ≤ M := by
  have := congrArg List.length h
  rw [List.length_append] at this
  omega
/-- one place of both -/
theorem mt_at {XP YP : List (List (List UInt8))} {XD YD : List Bool} {n : Nat} {x y : List At} (hx : WdL XP XD n x) (hy : WdL YP YD n y) (f : Bool) {i : Nat} (hi : i ≤ n) {q r : List (List UInt8)} (hq : XP[i]? = some q) (hr : YP[i]? = some r) : ∃ R, mt f (wAts (XP.drop i) (XD.drop i)) (wAts (YP.drop i) (YD.drop i)) = mtP f q r ++ R ∧ (i < n → ∃ b c, XD[i]? = some b ∧ YD[i]? = some c ∧ R = kp c (stp b) ++ mt f (wAts (XP.drop (i + 1)) (XD.drop (i + 1))) (wAts (YP.drop (i + 1)) (YD.drop (i + 1)))) ∧ (i = n → R = []) := by
  by_cases e : i < n
  · obtain ⟨b, hb⟩ := hx.dr e
    obtain ⟨c, hc⟩ := hy.dr e
    exact ⟨_, by rw [wAts_drop hq hb, wAts_drop hr hc, mt_step], fun _ => ⟨b, c, hb, hc, rfl⟩, fun k => by omega⟩
  · obtain rfl : i = n := by omega
    have h1 := wAts_last (by rw [hx.pl, hx.dl]) (by rw [hx.dl]; exact hq)
    have h2 := wAts_last (by rw [hy.pl, hy.dl]) (by rw [hy.dl]; exact hr)
    rw [hx.dl] at h1
    rw [hy.dl] at h2
    exact ⟨[], by rw [h1, h2, mt_end, List.append_nil], fun k => by omega, fun _ => rfl⟩
theorem mt_over {XP YP : List (List (List UInt8))} {XD YD : List Bool} {n m : Nat} {x y : List At} (hx : WdL XP XD n x) (hy : WdL YP YD n y) (f : Bool) (hm : n + 1 = m) : mt f (wAts (XP.drop m) (XD.drop m)) (wAts (YP.drop m) (YD.drop m)) = [] := by
  rw [List.drop_of_length_le (by rw [hx.pl]; omega), List.drop_of_length_le (l := YP) (by rw [hy.pl]; omega)]
  have := mt_end f [] []
  simp only [List.map_nil] at this
  simp only [wAts]
  rw [this]
  cases f <;> rfl
theorem rep_k (x : List At) (j : Nat) : (x ++ List.replicate j .k) ++ [stp false] = x ++ List.replicate (j + 1) .k := by
  rw [List.replicate_succ', List.append_assoc]
  rfl
/-- what lies there while two edits meet -/
structure MS (w wr : World) (gX gY gr gz : Nat) (bX bY : List Value) (zP zD : Value) (P : List (List (List UInt8))) (D : List Bool) : Prop where
  z : Wd wr w.heap.size zP zD P D
  bz : RowAt wr gz 113 [zP, zD]
  x : RowAt wr gX 113 bX
  y : RowAt wr gY 113 bY
  r : RowAt wr gr 113 [.slice none 0 0, .slice none 0 0]
  nx : gz ≠ gX
  ny : gz ≠ gY
  nr : gz ≠ gr
  gb : w.heap.size ≤ gz
  bel : Below w.heap.size w wr
theorem MS.call {w wr wr' : World} {gX gY gr gz : Nat} {bX bY : List Value} {zP zD : Value} {P : List (List (List UInt8))} {D : List Bool} (h : MS w wr gX gY gr gz bX bY zP zD P D) (hb : Below wr.heap.size wr wr') : MS w wr' gX gY gr gz bX bY zP zD P D :=
  ⟨h.z.call hb, h.bz.below hb h.bz.lt, h.x.below hb h.x.lt, h.y.below hb h.y.lt, h.r.below hb h.r.lt, h.nx, h.ny, h.nr, h.gb, h.bel.trans (hb.mono h.bel.size)⟩
theorem MS.store {w wr : World} {gX gY gr gz : Nat} {bX bY : List Value} {zP zD vP vD : Value} {P P' : List (List (List UInt8))} {D D' : List Bool} (h : MS w wr gX gY gr gz bX bY zP zD P D) (hz : Wd wr w.heap.size vP vD P' D') : MS w ((wr.setCell ⟨gz, 0, none⟩ vP).setCell ⟨gz, 1, none⟩ vD) gX gY gr gz bX bY vP vD P' D' := by
  have ho : Only (fun k => k = gz) wr ((wr.setCell ⟨gz, 0, none⟩ vP).setCell ⟨gz, 1, none⟩ vD) := ((Only.refl (fun k => k = gz) wr).set gz 0 vP rfl).set gz 1 vD rfl
  obtain ⟨n1, n2⟩ := hz.row_ne h.bz (by decide) (by decide)
  exact ⟨(hz.other n1 n2).other n1 n2, (h.bz.set 0 vP).set 1 vD, h.x.only ho (fun e => h.nx e.symm), h.y.only ho (fun e => h.ny e.symm), h.r.only ho (fun e => h.nr e.symm), h.nx, h.ny, h.nr, h.gb, (h.bel.setCell (by show w.heap.size ≤ gz; exact h.gb) _).setCell (by show w.heap.size ≤ gz; exact h.gb) _⟩
set_option maxRecDepth 100000 in
set_option maxHeartbeats 4000000 in
theorem rmeetW_any {w : World} {B xp xd yp yd n m : Nat} {XP YP : List (List (List UInt8))} {XD YD : List Bool} {X Y : List At} (f : Bool) (hx : Wd w B (.slice (some ⟨xp, 0, none⟩) m m) (.slice (some ⟨xd, 0, none⟩) n n) XP XD) (hy : Wd w B (.slice (some ⟨yp, 0, none⟩) m m) (.slice (some ⟨yd, 0, none⟩) n n) YP YD) (hxl : WdL XP XD n X) (hyl : WdL YP YD n Y) (hm : n + 1 = m) (hn : n ≤ 4096) (hM : (mt f X Y).length ≤ 65536) (htx : At.toN X ≤ 65536) (hty : At.toN Y ≤ 65536) :
    Calls Tryd.prog 72 #[.agg #[.slice (some ⟨xp, 0, none⟩) m m, .slice (some ⟨xd, 0, none⟩) n n], .agg #[.slice (some ⟨yp, 0, none⟩) m m, .slice (some ⟨yd, 0, none⟩) n n], .bool f] w fun e w' => ∃ zP zD ZP ZD, e = .returned (.agg #[zP, zD]) ∧ Wd w' w.heap.size zP zD ZP ZD ∧ ZL ZP ZD (mt f X Y) ∧ Below w.heap.size w w' := by
  have HXA : Hid (∀ W, Below w.heap.size w W → Wd W B (.slice (some ⟨xp, 0, none⟩) m m) (.slice (some ⟨xd, 0, none⟩) n n) XP XD) := hide (fun W hW => hx.call hW)
  have HYA : Hid (∀ W, Below w.heap.size w W → Wd W B (.slice (some ⟨yp, 0, none⟩) m m) (.slice (some ⟨yd, 0, none⟩) n n) YP YD) := hide (fun W hW => hy.call hW)
  have HXL := hide hxl
  have HYL := hide hyl
  have HM := hide hm
  have HMM := hide hM
  have HTX := hide htx
  have HTY := hide hty
  have mI : (m : Int) ≤ 4097 := by omega
  have nI : (n : Int) ≤ 4096 := by omega
  have HMS : Hid (MS w (((((w.alloc (.cells #[.slice (some ⟨xp, 0, none⟩) m m, .slice (some ⟨xd, 0, none⟩) n n] 113)).alloc (.cells #[.slice (some ⟨yp, 0, none⟩) m m, .slice (some ⟨yd, 0, none⟩) n n] 113)).alloc (.cells #[.slice none 0 0, .slice none 0 0] 113)).alloc (.cells #[.string { data := #[] }] 9)).alloc (.cells #[.slice (some ⟨w.heap.size + 1 + 1 + 1, 0, none⟩) 1 1, .slice none 0 0] 113)) w.heap.size (w.heap.size + 1) (w.heap.size + 1 + 1) (w.heap.size + 1 + 1 + 1 + 1) [.slice (some ⟨xp, 0, none⟩) m m, .slice (some ⟨xd, 0, none⟩) n n] [.slice (some ⟨yp, 0, none⟩) m m, .slice (some ⟨yd, 0, none⟩) n n] (.slice (some ⟨w.heap.size + 1 + 1 + 1, 0, none⟩) 1 1) (.slice none 0 0) [[]] []) := hide (by
    obtain ⟨w1, h1⟩ : ∃ z, w.alloc (.cells #[.slice (some ⟨xp, 0, none⟩) m m, .slice (some ⟨xd, 0, none⟩) n n] 113) = z := ⟨_, rfl⟩
    have b1 : Below w.heap.size w w1 := by rw [← h1]; exact (Below.refl _ _).alloc (Nat.le_refl _) _
    have s1 : w1.heap.size = w.heap.size + 1 := by rw [← h1, size_alloc]
    have r1 : RowAt w1 w.heap.size 113 [.slice (some ⟨xp, 0, none⟩) m m, .slice (some ⟨xd, 0, none⟩) n n] := by rw [← h1]; exact RowAt.new w 113 [.slice (some ⟨xp, 0, none⟩) m m, .slice (some ⟨xd, 0, none⟩) n n]
    rw [h1]
    obtain ⟨w2, h2⟩ : ∃ z, w1.alloc (.cells #[.slice (some ⟨yp, 0, none⟩) m m, .slice (some ⟨yd, 0, none⟩) n n] 113) = z := ⟨_, rfl⟩
    have b2 : Below w1.heap.size w1 w2 := by rw [← h2]; exact (Below.refl _ _).alloc (Nat.le_refl _) _
    have s2 : w2.heap.size = w.heap.size + 2 := by rw [← h2, size_alloc, s1]
    have r2 : RowAt w2 (w.heap.size + 1) 113 [.slice (some ⟨yp, 0, none⟩) m m, .slice (some ⟨yd, 0, none⟩) n n] := by rw [← h2, ← s1]; exact RowAt.new w1 113 [.slice (some ⟨yp, 0, none⟩) m m, .slice (some ⟨yd, 0, none⟩) n n]
    rw [h2]
    obtain ⟨w3, h3⟩ : ∃ z, w2.alloc (.cells #[.slice none 0 0, .slice none 0 0] 113) = z := ⟨_, rfl⟩
    have b3 : Below w2.heap.size w2 w3 := by rw [← h3]; exact (Below.refl _ _).alloc (Nat.le_refl _) _
    have s3 : w3.heap.size = w.heap.size + 3 := by rw [← h3, size_alloc, s2]
    have r3 : RowAt w3 (w.heap.size + 2) 113 [.slice none 0 0, .slice none 0 0] := by rw [← h3, ← s2]; exact RowAt.new w2 113 [.slice none 0 0, .slice none 0 0]
    rw [h3]
    obtain ⟨w4, h4⟩ : ∃ z, w3.alloc (.cells #[.string { data := #[] }] 9) = z := ⟨_, rfl⟩
    have b4 : Below w3.heap.size w3 w4 := by rw [← h4]; exact (Below.refl _ _).alloc (Nat.le_refl _) _
    have s4 : w4.heap.size = w.heap.size + 4 := by rw [← h4, size_alloc, s3]
    have r4 : RowAt w4 (w.heap.size + 3) 9 (sS [[]]) := by rw [← h4, ← s3]; exact RowAt.new w3 9 (sS [[]])
    rw [h4]
    obtain ⟨w5, h5⟩ : ∃ z, w4.alloc (.cells #[.slice (some ⟨w.heap.size + 1 + 1 + 1, 0, none⟩) 1 1, .slice none 0 0] 113) = z := ⟨_, rfl⟩
    have b5 : Below w4.heap.size w4 w5 := by rw [← h5]; exact (Below.refl _ _).alloc (Nat.le_refl _) _
    have r5 : RowAt w5 (w.heap.size + 4) 113 [.slice (some ⟨w.heap.size + 1 + 1 + 1, 0, none⟩) 1 1, .slice none 0 0] := by rw [← h5, ← s4]; exact RowAt.new w4 113 [.slice (some ⟨w.heap.size + 1 + 1 + 1, 0, none⟩) 1 1, .slice none 0 0]
    rw [h5]
    have b35 := b4.trans (b5.mono b4.size)
    have b25 := b3.trans (b35.mono b3.size)
    have b15 := b2.trans (b25.mono b2.size)
    have b05 := b1.trans (b15.mono b1.size)
    have ow := own_row r4 (show w.heap.size ≤ w.heap.size + 3 by omega) (by rw [sS_len]; unfold maxLen; simp)
    exact ⟨⟨own_call ow b5, own_call (World.ownsRow_nil _ _ _ _) b5⟩, r5, r1.below b15 r1.lt, r2.below b25 r2.lt, r3.below b35 r3.lt, by omega, by omega, by omega, by omega, b05⟩)
  obtain ⟨T, hT⟩ : ∃ z, mt f X Y = z := ⟨_, rfl⟩
  have HT := hide hT
  rw [hT] at HMM ⊢
  clear hx hy hxl hyl hm hn hM htx hty hT
  cases f with
  | true =>
    go_enter Tryd.func72, Tryd.ntmps72
    go_wp2_with fail
    obtain ⟨wA, hA⟩ : ∃ z, ((((w.alloc (.cells #[.slice (some ⟨xp, 0, none⟩) m m, .slice (some ⟨xd, 0, none⟩) n n] 113)).alloc (.cells #[.slice (some ⟨yp, 0, none⟩) m m, .slice (some ⟨yd, 0, none⟩) n n] 113)).alloc (.cells #[.slice none 0 0, .slice none 0 0] 113)).alloc (.cells #[.string { data := #[] }] 9)).alloc (.cells #[.slice (some ⟨w.heap.size + 1 + 1 + 1, 0, none⟩) 1 1, .slice none 0 0] 113) = z := ⟨_, rfl⟩
    rw [hA] at HMS
    simp only [hA]
    obtain ⟨gz, hgz⟩ : ∃ z, w.heap.size + 1 + 1 + 1 + 1 = z := ⟨_, rfl⟩
    rw [hgz] at HMS
    simp only [hgz]
    obtain ⟨gl, hgl⟩ : ∃ z, w.heap.size + 1 + 1 + 1 = z := ⟨_, rfl⟩
    rw [hgl] at HMS
    simp only [hgl]
    obtain ⟨gr, hgr⟩ : ∃ z, w.heap.size + 1 + 1 = z := ⟨_, rfl⟩
    rw [hgr] at HMS
    simp only [hgr]
    obtain ⟨gY, hgY⟩ : ∃ z, w.heap.size + 1 = z := ⟨_, rfl⟩
    rw [hgY] at HMS
    simp only [hgY]
    obtain ⟨gX, hgX⟩ : ∃ z, w.heap.size = z := ⟨_, rfl⟩
    have HMS : Hid (MS w wA gX gY gr gz [.slice (some ⟨xp, 0, none⟩) m m, .slice (some ⟨xd, 0, none⟩) n n] [.slice (some ⟨yp, 0, none⟩) m m, .slice (some ⟨yd, 0, none⟩) n n] (.slice (some ⟨gl, 0, none⟩) 1 1) (.slice none 0 0) [[]] []) := by rw [← hgX]; exact HMS
    have HGR : Hid (w.heap.size ≤ gr) := hide (by omega)
    rw [show (Value.pointer (some ({ block := w.heap.size, off := 0 } : Addr))) = Value.pointer (some ({ block := gX, off := 0 } : Addr)) by rw [hgX]]
    clear hA hgz hgl hgr hgY hgX
    go_loopw [14] (fun t14 wr => ∃ i : Nat, i ≤ m ∧ t14 = .int .i64 (i : Int) ∧ Hid (∃ zP zD ZP ZD x, MS w wr gX gY gr gz [.slice (some ⟨xp, 0, none⟩) m m, .slice (some ⟨xd, 0, none⟩) n n] [.slice (some ⟨yp, 0, none⟩) m m, .slice (some ⟨yd, 0, none⟩) n n] zP zD ZP ZD ∧ ZL ZP ZD x ∧ x ++ mt true (wAts (XP.drop i) (XD.drop i)) (wAts (YP.drop i) (YD.drop i)) = T)) (fun t14 _ => ((m : Int) - intOf t14).toNat)
    case atStart => exact ⟨0, by omega, by simp, hide ⟨_, _, _, _, [], unhide HMS, ZL.start, by rw [List.drop_zero, List.drop_zero, List.drop_zero, List.drop_zero, List.nil_append, (unhide HXL).eq, (unhide HYL).eq]; exact unhide HT⟩⟩
    case round =>
      obtain ⟨i, hi, rfl, HZ⟩ := hrel
      obtain ⟨zP, zD, ZP, ZD, x, hms, hzl, heq⟩ := unhide HZ
      have HS0 := hide hms
      have HL0 := hide hzl
      by_cases hlt : i < m
      · have hin : i ≤ n := by have := unhide HM; omega
        have iM : (i : Int) < (m : Int) := by omega
        have i0 : (0 : Int) ≤ (i : Int) := by omega
        obtain ⟨q, hq, hcq, hlq⟩ := (unhide HXL).at_ hin
        obtain ⟨r, hr, hcr, hlr⟩ := (unhide HYL).at_ hin
        obtain ⟨R, hR1, hR2, hR3⟩ := mt_at (unhide HXL) (unhide HYL) true hin hq hr
        rw [hR1] at heq
        have HE0 := hide heq
        have HR2 := hide hR2
        have HR3 := hide hR3
        have HQ := hide hq
        have HRQ := hide hr
        have HCQ := hide hcq
        have HQL : Hid (q.length ≤ 65536) := hide (by have := unhide HTX; omega)
        have HX8 : Hid (x.length ≤ 65536) := hide (apM_le heq (unhide HMM))
        have HCH := hide (fun W => chars_row (w := W) (tx_txB hcr) (by have := unhide HTY; omega))
        obtain ⟨rn, hrn⟩ : ∃ z, r.length = z := ⟨_, rfl⟩
        have HRN := hide hrn
        have rnI : (rn : Int) ≤ 65536 := by have := unhide HTY; omega
        rw [hrn] at HCH
        clear hms hzl heq HZ hq hr hcq hcr hlq hlr hR1 hR2 hR3 hrn
        go_wp2_with fail
        obtain ⟨lq, hlq, hcl, hll, hdl⟩ := (unhide HL0).last
        have HLS := hide (wlast_any (r := q) ((unhide HS0).call (Below.refl _ _).drew).z (unhide HS0).bel.size (unhide HL0).pl hlq (by have := (unhide HL0).pl; have := unhide HX8; omega) (by have h1 := txB_le hcl; have h2 := txB_le (unhide HCQ); have h3 := unhide HX8; have h4 := unhide HQL; omega))
        have HLN := hide ((unhide HL0).more hlq (unhide HCQ))
        clear hlq hcl hll hdl
        obtain ⟨az, cz, hza, -, -⟩ := own_sl (unhide HS0).z.p
        obtain ⟨ad, cd, hzd, -, -⟩ := own_sl (unhide HS0).z.d
        generalize hmz : ZP.length = mz at hza
        generalize hnz : ZD.length = nz at hzd
        subst hza hzd
        clear hmz hnz
        have HSS : Hid (∀ W, Below wr.heap.size wr W → W.cell? ⟨gz, 0, none⟩ = some (.slice az mz cz) ∧ W.cell? ⟨gz, 1, none⟩ = some (.slice ad nz cd) ∧ W.cell? ⟨gX, 0, none⟩ = some (.slice (some ⟨xp, 0, none⟩) m m) ∧ W.cell? ⟨xp, i, none⟩ = some (.string (txB q))) := hide (fun W hW => ⟨((unhide HS0).call hW).bz.cell 0, ((unhide HS0).call hW).bz.cell 1, ((unhide HS0).call hW).x.cell 0, ((unhide HXA W ((unhide HS0).call hW).bel).cp (unhide HQ)).1⟩)
        refine wp_region_T (S := fun W => W.cell? ⟨gz, 0, none⟩ = some (.slice az mz cz) ∧ W.cell? ⟨gz, 1, none⟩ = some (.slice ad nz cd) ∧ W.cell? ⟨gX, 0, none⟩ = some (.slice (some ⟨xp, 0, none⟩) m m) ∧ W.cell? ⟨xp, i, none⟩ = some (.string (txB q))) (fun i => decide (i < 7)) (by kernel_rfl) (unhide HSS _ (Below.refl _ _).drew) (fun hHeld => ?_)
        refine tk 0 (v := .agg #[.slice az mz cz, .slice ad nz cd]) rfl (Or.inl ⟨by rfl, ?_⟩) hHeld ?_
        · intro w hSw
          obtain ⟨s0, s1, s2, s3⟩ := hSw
          first
            | rfl
            | (go_simp; done)
        try go_frame
        refine tk 1 (v := .pointer (some ⟨gX, 0, none⟩)) rfl (Or.inl ⟨by rfl, ?_⟩) hHeld ?_
        · intro w hSw
          obtain ⟨s0, s1, s2, s3⟩ := hSw
          first
            | rfl
            | (go_simp; done)
        try go_frame
        refine tk 2 (v := .slice (some ⟨xp, 0, none⟩) m m) rfl (Or.inl ⟨by rfl, ?_⟩) hHeld ?_
        · intro w hSw
          obtain ⟨s0, s1, s2, s3⟩ := hSw
          first
            | rfl
            | (go_simp; done)
        try go_frame
        refine tk 3 (v := .int .i64 (i : Int)) rfl (Or.inl ⟨by rfl, ?_⟩) hHeld ?_
        · intro w hSw
          obtain ⟨s0, s1, s2, s3⟩ := hSw
          first
            | rfl
            | (go_simp; done)
        try go_frame
        refine tk 4 (v := .pointer (some ⟨xp, i, none⟩)) rfl (Or.inl ⟨by rfl, ?_⟩) hHeld ?_
        · intro w hSw
          obtain ⟨s0, s1, s2, s3⟩ := hSw
          first
            | rfl
            | (go_simp; done)
        try go_frame
        refine tk 5 (v := .string (txB q)) rfl (Or.inl ⟨by rfl, ?_⟩) hHeld ?_
        · intro w hSw
          obtain ⟨s0, s1, s2, s3⟩ := hSw
          first
            | rfl
            | (go_simp; done)
        try go_frame
        skip
        refine wpAnyT_one (i := 6) (o := { dst := some 24, op := Op.call { callee := Callee.value (Operand.func 84), args := #[Operand.tmp 18, Operand.tmp 23], argTypes := #[113, 9] }, type := 113, pos := "ref.go:285", after := #[{ on := 0, ground := Ground.data }, { on := 5, ground := Ground.data }], guard := none }) (by kernel_rfl) rfl (fun K hK => ?_)
        go_simp
        refine Calls.mono (unhide HLS) ?_
        rintro e v1 ⟨vP1, rfl, hz1, hb1⟩
        obtain ⟨ap, cp, hzp, -, -⟩ := own_sl hz1.p
        generalize hmp : (List.set _ _ _).length = mp at hzp
        subst hzp
        clear hmp
        have HSW := hide ((unhide HS0).call ((Below.refl _ _).drew.trans hb1))
        have HST := hide ((unhide HSW).store hz1)
        have HBV := hide hb1
        clear hz1 hb1
        go_wp2_with fail
        refine hK.out _ _ (fun _ => unhide HSS _ ((Below.refl _ _).drew.trans (unhide HBV))) ?_
        clear hK K
        try go_frame
        have fr0 := (unhide HSW).bz.frozen 0
        have fr1 := (unhide HSW).bz.frozen 1
        have z0 : v1.cell? ⟨gz, 0, none⟩ = some (.slice az mz cz) := (unhide HSW).bz.cell 0
        have z1 : v1.cell? ⟨gz, 1, none⟩ = some (.slice ad nz cd) := (unhide HSW).bz.cell 1
        refine wpAnyT_one (i := 7) (o := { dst := none, op := Op.store 113 (Operand.tmp 7) (Operand.tmp 24), type := 0, pos := "ref.go:285", after := #[{ on := 6, ground := Ground.data }, { on := 6, ground := Ground.chain }, { on := 0, ground := Ground.phase }, { on := 1, ground := Ground.phase }, { on := 2, ground := Ground.phase }, { on := 3, ground := Ground.phase }, { on := 4, ground := Ground.phase }, { on := 5, ground := Ground.phase }, { on := 6, ground := Ground.phase }], guard := none }) (by kernel_rfl) rfl (fun K hK => ?_)
        go_simp
        refine hK.out _ _ (fun h => by cases h) ?_
        clear hK K
        try go_frame
        refine wpAnyT_done (by kernel_rfl) ?_ _
        obtain ⟨u1, hu1⟩ : ∃ z, (v1.setCell ⟨gz, 0, none⟩ (.slice ap mp cp)).setCell ⟨gz, 1, none⟩ (.slice ad nz cd) = z := ⟨_, rfl⟩
        simp only [hu1] at HST ⊢
        obtain ⟨zP, zD, ZP, ZD, hS_, hL_⟩ : ∃ zP zD ZP ZD, MS w u1 gX gY gr gz [.slice (some ⟨xp, 0, none⟩) m m, .slice (some ⟨xd, 0, none⟩) n n] [.slice (some ⟨yp, 0, none⟩) m m, .slice (some ⟨yd, 0, none⟩) n n] zP zD ZP ZD ∧ ZL ZP ZD (x ++ q.map At.p) := ⟨_, _, _, _, unhide HST, unhide HLN⟩
        have HS1 := hide hS_
        have HL1 := hide hL_
        clear hu1 hS_ hL_ HSW HSS HLS HBV HST HLN fr0 fr1 z0 z1
        have d0 : u1.cell? ⟨gY, 0, none⟩ = some (.slice (some ⟨yp, 0, none⟩) m m) := (unhide HS1).y.cell 0
        have d1 : u1.cell? ⟨yp, i, none⟩ = some (.string (txB r)) := ((unhide HYA _ (unhide HS1).bel).cp (unhide HRQ)).1
        go_wp2_with fail
        refine Calls.mono (unhide HCH _) ?_
        rintro e w7 ⟨v7, rfl, hv7, hb7⟩
        obtain ⟨a7, c7, rfl, -, -⟩ := own_sl hv7
        have HS7 := hide ((unhide HS1).call hb7)
        clear hv7 hb7 HS1 d0 d1
        go_wp2_with fail
        go_loopw [32] (fun t32 wr => ∃ j : Nat, j ≤ rn ∧ t32 = .int .i64 (j : Int) ∧ Hid (∃ zP zD ZP ZD, MS w wr gX gY gr gz [.slice (some ⟨xp, 0, none⟩) m m, .slice (some ⟨xd, 0, none⟩) n n] [.slice (some ⟨yp, 0, none⟩) m m, .slice (some ⟨yd, 0, none⟩) n n] zP zD ZP ZD ∧ ZL ZP ZD ((x ++ q.map At.p) ++ List.replicate j .k))) (fun t32 _ => ((rn : Int) - intOf t32).toNat)
        case atStart => exact ⟨0, by omega, by simp, hide ⟨_, _, _, _, unhide HS7, by rw [List.replicate_zero, List.append_nil]; exact unhide HL1⟩⟩
        case round =>
          obtain ⟨j, hj, rfl, HZ⟩ := hrel
          obtain ⟨zP, zD, ZP, ZD, hms, hzl⟩ := unhide HZ
          have HS0 := hide hms
          have HL0 := hide hzl
          clear hms hzl HZ
          by_cases hjl : j < rn
          · have hjI : (j : Int) < (rn : Int) := by omega
            have HXX : Hid (((x ++ q.map At.p) ++ List.replicate j At.k).length ≤ 131072) := hide (by
              have h := unhide HE0
              have h2 := congrArg List.length h
              have h3 := unhide HMM
              have h4 := unhide HRN
              simp only [mtP, ↓reduceIte, List.length_append, List.length_map, List.length_replicate] at h2 ⊢
              omega)
            obtain ⟨lq, -, -, -, hdl⟩ := (unhide HL0).last
            have HLS := hide (wnext_any false (unhide HS0).z (by have := (unhide HL0).pl; have := unhide HXX; omega) (by have := unhide HXX; omega))
            have HLN := hide ((unhide HL0).next false)
            clear hdl
            obtain ⟨az, cz, hza, -, -⟩ := own_sl (unhide HS0).z.p
            obtain ⟨ad, cd, hzd, -, -⟩ := own_sl (unhide HS0).z.d
            generalize hmz : ZP.length = mz at hza
            generalize hnz : ZD.length = nz at hzd
            subst hza hzd
            clear hmz hnz
            have z0 : wr.cell? ⟨gz, 0, none⟩ = some (.slice az mz cz) := (unhide HS0).bz.cell 0
            have z1 : wr.cell? ⟨gz, 1, none⟩ = some (.slice ad nz cd) := (unhide HS0).bz.cell 1
            go_wp2_with fail
            refine Calls.mono (unhide HLS) ?_
            rintro e v8 ⟨vP8, vD8, rfl, hz8, hb8⟩
            clear z0 z1
            obtain ⟨ap, cp, hzp, -, -⟩ := own_sl hz8.p
            obtain ⟨aq, cq, hzq, -, -⟩ := own_sl hz8.d
            generalize hmp : (ZP ++ [[]]).length = mp at hzp
            generalize hnp : (ZD ++ [_]).length = nq at hzq
            subst hzp hzq
            clear hmp hnp
            have HSW := hide ((unhide HS0).call (hb8))
            have HST := hide ((unhide HSW).store (hz8.base (unhide HS0).bel.size))
            have HBV := hide hb8
            clear hz8 hb8
            have fr0 := (unhide HSW).bz.frozen 0
            have fr1 := (unhide HSW).bz.frozen 1
            have z0 : v8.cell? ⟨gz, 0, none⟩ = some (.slice az mz cz) := (unhide HSW).bz.cell 0
            have z1 : v8.cell? ⟨gz, 1, none⟩ = some (.slice ad nz cd) := (unhide HSW).bz.cell 1
            go_wp2_with fail
            exact ⟨⟨j + 1, by omega, by simp, hide ⟨_, _, _, _, unhide HST, by have h := unhide HLN; rw [rep_k] at h; exact h⟩⟩, by simp [intOf] <;> omega⟩
          · obtain rfl : rn = j := by omega
            have HEF : Hid (((x ++ q.map At.p) ++ List.replicate rn At.k) ++ R = T) := hide (by have h := unhide HE0; simp only [mtP, ↓reduceIte] at h; rw [unhide HRN] at h; simpa [List.append_assoc] using h)
            have e0 : wr.cell? ⟨gX, 1, none⟩ = some (.slice (some ⟨xd, 0, none⟩) n n) := (unhide HS0).x.cell 1
            have e1 : wr.cell? ⟨gY, 1, none⟩ = some (.slice (some ⟨yd, 0, none⟩) n n) := (unhide HS0).y.cell 1
            by_cases hin2 : i < n
            · obtain ⟨b, c, hb, hc, hRR⟩ := unhide HR2 hin2
              have e2 : wr.cell? ⟨yd, i, none⟩ = some (.bool c) := ((unhide HYA _ (unhide HS0).bel).cd hc).1
              have HBB := hide hb
              have hiI : (i : Int) < (n : Int) := by omega
              rw [hRR] at HEF
              have HXX := hide (apM_le (unhide HEF) (unhide HMM))
              clear hb hc hRR
              cases c with
              | true =>
                go_wp2_with fail
                exact ⟨⟨i + 1, by omega, by simp, hide ⟨_, _, _, _, _, unhide HS0, unhide HL0, unhide HEF⟩⟩, by simp [intOf] <;> omega⟩
              | false =>
                go_wp2_with fail
                obtain ⟨lq, -, -, -, hdl⟩ := (unhide HL0).last
                have HLS := hide (wnext_any b ((unhide HS0).call (Below.refl _ _).drew).z (by have := (unhide HL0).pl; have := unhide HXX; omega) (by have := unhide HXX; omega))
                have HLN := hide ((unhide HL0).next b)
                clear hdl
                obtain ⟨az, cz, hza, -, -⟩ := own_sl (unhide HS0).z.p
                obtain ⟨ad, cd, hzd, -, -⟩ := own_sl (unhide HS0).z.d
                generalize hmz : ZP.length = mz at hza
                generalize hnz : ZD.length = nz at hzd
                subst hza hzd
                clear hmz hnz
                have HSS : Hid (∀ W, Below wr.heap.size wr W → W.cell? ⟨gz, 0, none⟩ = some (.slice az mz cz) ∧ W.cell? ⟨gz, 1, none⟩ = some (.slice ad nz cd) ∧ W.cell? ⟨gX, 1, none⟩ = some (.slice (some ⟨xd, 0, none⟩) n n) ∧ W.cell? ⟨xd, i, none⟩ = some (.bool b)) := hide (fun W hW => ⟨((unhide HS0).call hW).bz.cell 0, ((unhide HS0).call hW).bz.cell 1, ((unhide HS0).call hW).x.cell 1, ((unhide HXA W ((unhide HS0).call hW).bel).cd (unhide HBB)).1⟩)
                refine wp_region_T (S := fun W => W.cell? ⟨gz, 0, none⟩ = some (.slice az mz cz) ∧ W.cell? ⟨gz, 1, none⟩ = some (.slice ad nz cd) ∧ W.cell? ⟨gX, 1, none⟩ = some (.slice (some ⟨xd, 0, none⟩) n n) ∧ W.cell? ⟨xd, i, none⟩ = some (.bool b)) (fun i => decide (i < 7)) (by kernel_rfl) (unhide HSS _ (Below.refl _ _).drew) (fun hHeld => ?_)
                refine tk 0 (v := .agg #[.slice az mz cz, .slice ad nz cd]) rfl (Or.inl ⟨by rfl, ?_⟩) hHeld ?_
                · intro w hSw
                  obtain ⟨s0, s1, s2, s3⟩ := hSw
                  first
                    | rfl
                    | (go_simp; done)
                try go_frame
                refine tk 1 (v := .pointer (some ⟨gX, 1, none⟩)) rfl (Or.inl ⟨by rfl, ?_⟩) hHeld ?_
                · intro w hSw
                  obtain ⟨s0, s1, s2, s3⟩ := hSw
                  first
                    | rfl
                    | (go_simp; done)
                try go_frame
                refine tk 2 (v := .slice (some ⟨xd, 0, none⟩) n n) rfl (Or.inl ⟨by rfl, ?_⟩) hHeld ?_
                · intro w hSw
                  obtain ⟨s0, s1, s2, s3⟩ := hSw
                  first
                    | rfl
                    | (go_simp; done)
                try go_frame
                refine tk 3 (v := .int .i64 (i : Int)) rfl (Or.inl ⟨by rfl, ?_⟩) hHeld ?_
                · intro w hSw
                  obtain ⟨s0, s1, s2, s3⟩ := hSw
                  first
                    | rfl
                    | (go_simp; done)
                try go_frame
                refine tk 4 (v := .pointer (some ⟨xd, i, none⟩)) rfl (Or.inl ⟨by rfl, ?_⟩) hHeld ?_
                · intro w hSw
                  obtain ⟨s0, s1, s2, s3⟩ := hSw
                  first
                    | rfl
                    | (go_simp; done)
                try go_frame
                refine tk 5 (v := .bool b) rfl (Or.inl ⟨by rfl, ?_⟩) hHeld ?_
                · intro w hSw
                  obtain ⟨s0, s1, s2, s3⟩ := hSw
                  first
                    | rfl
                    | (go_simp; done)
                try go_frame
                refine wpAnyT_one (i := 6) (o := { dst := some 65, op := Op.call { callee := Callee.value (Operand.func 85), args := #[Operand.tmp 59, Operand.tmp 64], argTypes := #[113, 4] }, type := 113, pos := "ref.go:294", after := #[{ on := 0, ground := Ground.data }, { on := 5, ground := Ground.data }], guard := none }) (by kernel_rfl) rfl (fun K hK => ?_)
                go_simp
                refine Calls.mono (unhide HLS) ?_
                rintro e v9 ⟨vP9, vD9, rfl, hz9, hb9⟩
                obtain ⟨ap, cp, hzp, -, -⟩ := own_sl hz9.p
                obtain ⟨aq, cq, hzq, -, -⟩ := own_sl hz9.d
                generalize hmp : (ZP ++ [[]]).length = mp at hzp
                generalize hnp : (ZD ++ [_]).length = nq at hzq
                subst hzp hzq
                clear hmp hnp
                have HSW := hide ((unhide HS0).call ((Below.refl _ _).drew.trans hb9))
                have HST := hide ((unhide HSW).store (hz9.base (unhide HS0).bel.size))
                have HBV := hide hb9
                clear hz9 hb9
                have fr0 := (unhide HSW).bz.frozen 0
                have fr1 := (unhide HSW).bz.frozen 1
                have z0 : v9.cell? ⟨gz, 0, none⟩ = some (.slice az mz cz) := (unhide HSW).bz.cell 0
                have z1 : v9.cell? ⟨gz, 1, none⟩ = some (.slice ad nz cd) := (unhide HSW).bz.cell 1
                go_wp2_with fail
                refine hK.out _ _ (fun _ => unhide HSS _ ((Below.refl _ _).drew.trans (unhide HBV))) ?_
                clear hK K
                try go_frame
                refine wpAnyT_one (i := 7) (o := { dst := none, op := Op.store 113 (Operand.tmp 7) (Operand.tmp 65), type := 0, pos := "ref.go:294", after := #[{ on := 6, ground := Ground.data }, { on := 6, ground := Ground.chain }, { on := 0, ground := Ground.phase }, { on := 1, ground := Ground.phase }, { on := 2, ground := Ground.phase }, { on := 3, ground := Ground.phase }, { on := 4, ground := Ground.phase }, { on := 5, ground := Ground.phase }, { on := 6, ground := Ground.phase }], guard := none }) (by kernel_rfl) rfl (fun K hK => ?_)
                go_simp
                refine hK.out _ _ (fun h => by cases h) ?_
                clear hK K
                try go_frame
                refine wpAnyT_done (by kernel_rfl) ?_ _
                obtain ⟨u9, hu9⟩ : ∃ z, (v9.setCell ⟨gz, 0, none⟩ (.slice ap mp cp)).setCell ⟨gz, 1, none⟩ (.slice aq nq cq) = z := ⟨_, rfl⟩
                simp only [hu9] at HST ⊢
                have HS9 := HST
                have HL9 := HLN
                clear hu9 HSW HSS HLS HBV HST HLN fr0 fr1 z0 z1
                go_wp2_with fail
                exact ⟨⟨i + 1, by omega, by simp, hide ⟨_, _, _, _, _, unhide HS9, unhide HL9, by have h := unhide HEF; rw [← h]; simp [kp]⟩⟩, by simp [intOf] <;> omega⟩
            · obtain rfl : n = i := by omega
              have hR0 := unhide HR3 rfl
              rw [hR0, List.append_nil] at HEF
              clear hR0
              go_wp2_with fail
              exact ⟨⟨n + 1, by omega, by simp, hide ⟨_, _, _, _, _, unhide HS0, unhide HL0, by rw [mt_over (unhide HXL) (unhide HYL) true (show n + 1 = n + 1 from rfl), List.append_nil]; exact unhide HEF⟩⟩, by simp [intOf] <;> omega⟩
      · obtain rfl : m = i := by omega
        rw [mt_over (unhide HXL) (unhide HYL) true (unhide HM), List.append_nil] at heq
        obtain ⟨az, cz, hza, -, -⟩ := own_sl hms.z.p
        obtain ⟨ad, cd, hzd, -, -⟩ := own_sl hms.z.d
        generalize hmz : ZP.length = mz at hza
        generalize hnz : ZD.length = nz at hzd
        subst hza hzd
        clear hmz hnz
        have z0 : wr.cell? ⟨gz, 0, none⟩ = some (.slice az mz cz) := hms.bz.cell 0
        have z1 : wr.cell? ⟨gz, 1, none⟩ = some (.slice ad nz cd) := hms.bz.cell 1
        have y0 : wr.cell? ⟨gr, 0, none⟩ = some (.slice none 0 0) := hms.r.cell 0
        have y1 : wr.cell? ⟨gr, 1, none⟩ = some (.slice none 0 0) := hms.r.cell 1
        have f0 := hms.r.frozen 0
        have f1 := hms.r.frozen 1
        have HEQ : Hid (ZL ZP ZD T) := hide (by rw [← heq]; exact hzl)
        have HFI : Hid (RowAt ((wr.setCell ⟨gr, 0, none⟩ (.slice az mz cz)).setCell ⟨gr, 1, none⟩ (.slice ad nz cd)) gr 113 [.slice az mz cz, .slice ad nz cd] ∧ Wd ((wr.setCell ⟨gr, 0, none⟩ (.slice az mz cz)).setCell ⟨gr, 1, none⟩ (.slice ad nz cd)) w.heap.size (.slice az mz cz) (.slice ad nz cd) ZP ZD ∧ Below w.heap.size w ((wr.setCell ⟨gr, 0, none⟩ (.slice az mz cz)).setCell ⟨gr, 1, none⟩ (.slice ad nz cd))) := hide (by
          obtain ⟨n1, n2⟩ := hms.z.row_ne hms.r (by decide) (by decide)
          exact ⟨(hms.r.set 0 _).set 1 _, (hms.z.other n1 n2).other n1 n2, (hms.bel.setCell (unhide HGR) _).setCell (unhide HGR) _⟩)
        clear hms hzl heq HZ HS0 HL0
        go_wp2_with fail
        obtain ⟨wF, hF⟩ : ∃ z, (wr.setCell ⟨gr, 0, none⟩ (.slice az mz cz)).setCell ⟨gr, 1, none⟩ (.slice ad nz cd) = z := ⟨_, rfl⟩
        simp only [hF] at HFI ⊢
        clear hF
        have q0 : wF.cell? ⟨gr, 0, none⟩ = some (.slice az mz cz) := (unhide HFI).1.cell 0
        have q1 : wF.cell? ⟨gr, 1, none⟩ = some (.slice ad nz cd) := (unhide HFI).1.cell 1
        refine bodyPost_ret (v := .agg #[.slice az mz cz, .slice ad nz cd]) (by simp [results, Tryd.results72, go_sem, q0, q1]) rfl ?_
        exact ⟨_, _, ZP, ZD, rfl, (unhide HFI).2.1, unhide HEQ, (unhide HFI).2.2⟩
  | false =>
    go_enter Tryd.func72, Tryd.ntmps72
    go_wp2_with fail
    obtain ⟨wA, hA⟩ : ∃ z, ((((w.alloc (.cells #[.slice (some ⟨xp, 0, none⟩) m m, .slice (some ⟨xd, 0, none⟩) n n] 113)).alloc (.cells #[.slice (some ⟨yp, 0, none⟩) m m, .slice (some ⟨yd, 0, none⟩) n n] 113)).alloc (.cells #[.slice none 0 0, .slice none 0 0] 113)).alloc (.cells #[.string { data := #[] }] 9)).alloc (.cells #[.slice (some ⟨w.heap.size + 1 + 1 + 1, 0, none⟩) 1 1, .slice none 0 0] 113) = z := ⟨_, rfl⟩
    rw [hA] at HMS
    simp only [hA]
    obtain ⟨gz, hgz⟩ : ∃ z, w.heap.size + 1 + 1 + 1 + 1 = z := ⟨_, rfl⟩
    rw [hgz] at HMS
    simp only [hgz]
    obtain ⟨gl, hgl⟩ : ∃ z, w.heap.size + 1 + 1 + 1 = z := ⟨_, rfl⟩
    rw [hgl] at HMS
    simp only [hgl]
    obtain ⟨gr, hgr⟩ : ∃ z, w.heap.size + 1 + 1 = z := ⟨_, rfl⟩
    rw [hgr] at HMS
    simp only [hgr]
    obtain ⟨gY, hgY⟩ : ∃ z, w.heap.size + 1 = z := ⟨_, rfl⟩
    rw [hgY] at HMS
    simp only [hgY]
    obtain ⟨gX, hgX⟩ : ∃ z, w.heap.size = z := ⟨_, rfl⟩
    have HMS : Hid (MS w wA gX gY gr gz [.slice (some ⟨xp, 0, none⟩) m m, .slice (some ⟨xd, 0, none⟩) n n] [.slice (some ⟨yp, 0, none⟩) m m, .slice (some ⟨yd, 0, none⟩) n n] (.slice (some ⟨gl, 0, none⟩) 1 1) (.slice none 0 0) [[]] []) := by rw [← hgX]; exact HMS
    have HGR : Hid (w.heap.size ≤ gr) := hide (by omega)
    rw [show (Value.pointer (some ({ block := w.heap.size, off := 0 } : Addr))) = Value.pointer (some ({ block := gX, off := 0 } : Addr)) by rw [hgX]]
    clear hA hgz hgl hgr hgY hgX
    go_loopw [14] (fun t14 wr => ∃ i : Nat, i ≤ m ∧ t14 = .int .i64 (i : Int) ∧ Hid (∃ zP zD ZP ZD x, MS w wr gX gY gr gz [.slice (some ⟨xp, 0, none⟩) m m, .slice (some ⟨xd, 0, none⟩) n n] [.slice (some ⟨yp, 0, none⟩) m m, .slice (some ⟨yd, 0, none⟩) n n] zP zD ZP ZD ∧ ZL ZP ZD x ∧ x ++ mt false (wAts (XP.drop i) (XD.drop i)) (wAts (YP.drop i) (YD.drop i)) = T)) (fun t14 _ => ((m : Int) - intOf t14).toNat)
    case atStart => exact ⟨0, by omega, by simp, hide ⟨_, _, _, _, [], unhide HMS, ZL.start, by rw [List.drop_zero, List.drop_zero, List.drop_zero, List.drop_zero, List.nil_append, (unhide HXL).eq, (unhide HYL).eq]; exact unhide HT⟩⟩
    case round =>
      obtain ⟨i, hi, rfl, HZ⟩ := hrel
      obtain ⟨zP, zD, ZP, ZD, x, hms, hzl, heq⟩ := unhide HZ
      have HS0 := hide hms
      have HL0 := hide hzl
      by_cases hlt : i < m
      · have hin : i ≤ n := by have := unhide HM; omega
        have iM : (i : Int) < (m : Int) := by omega
        have i0 : (0 : Int) ≤ (i : Int) := by omega
        obtain ⟨q, hq, hcq, hlq⟩ := (unhide HXL).at_ hin
        obtain ⟨r, hr, hcr, hlr⟩ := (unhide HYL).at_ hin
        obtain ⟨R, hR1, hR2, hR3⟩ := mt_at (unhide HXL) (unhide HYL) false hin hq hr
        rw [hR1] at heq
        have HE0 := hide heq
        have HR2 := hide hR2
        have HR3 := hide hR3
        have HQ := hide hq
        have HRQ := hide hr
        have HCQ := hide hcq
        have HQL : Hid (q.length ≤ 65536) := hide (by have := unhide HTX; omega)
        have HX8 : Hid (x.length ≤ 65536) := hide (apM_le heq (unhide HMM))
        have HCH := hide (fun W => chars_row (w := W) (tx_txB hcr) (by have := unhide HTY; omega))
        obtain ⟨rn, hrn⟩ : ∃ z, r.length = z := ⟨_, rfl⟩
        have HRN := hide hrn
        have rnI : (rn : Int) ≤ 65536 := by have := unhide HTY; omega
        rw [hrn] at HCH
        clear hms hzl heq HZ hq hr hcq hcr hlq hlr hR1 hR2 hR3 hrn
        have d0 : wr.cell? ⟨gY, 0, none⟩ = some (.slice (some ⟨yp, 0, none⟩) m m) := (unhide HS0).y.cell 0
        have d1 : wr.cell? ⟨yp, i, none⟩ = some (.string (txB r)) := ((unhide HYA _ (unhide HS0).bel).cp (unhide HRQ)).1
        go_wp2_with fail
        refine Calls.mono (unhide HCH _) ?_
        rintro e w7 ⟨v7, rfl, hv7, hb7⟩
        obtain ⟨a7, c7, rfl, -, -⟩ := own_sl hv7
        have HS7 := hide ((unhide HS0).call hb7)
        clear hv7 hb7 HS0 d0 d1
        go_wp2_with fail
        go_loopw [32] (fun t32 wr => ∃ j : Nat, j ≤ rn ∧ t32 = .int .i64 (j : Int) ∧ Hid (∃ zP zD ZP ZD, MS w wr gX gY gr gz [.slice (some ⟨xp, 0, none⟩) m m, .slice (some ⟨xd, 0, none⟩) n n] [.slice (some ⟨yp, 0, none⟩) m m, .slice (some ⟨yd, 0, none⟩) n n] zP zD ZP ZD ∧ ZL ZP ZD (x ++ List.replicate j .k))) (fun t32 _ => ((rn : Int) - intOf t32).toNat)
        case atStart => exact ⟨0, by omega, by simp, hide ⟨_, _, _, _, unhide HS7, by rw [List.replicate_zero, List.append_nil]; exact unhide HL0⟩⟩
        case round =>
          obtain ⟨j, hj, rfl, HZ⟩ := hrel
          obtain ⟨zP, zD, ZP, ZD, hms, hzl⟩ := unhide HZ
          have HS0 := hide hms
          have HL0 := hide hzl
          clear hms hzl HZ
          by_cases hjl : j < rn
          · have hjI : (j : Int) < (rn : Int) := by omega
            have HXX : Hid ((x ++ List.replicate j At.k).length ≤ 131072) := hide (by
              have h := unhide HE0
              have h2 := congrArg List.length h
              have h3 := unhide HMM
              have h4 := unhide HRN
              simp only [mtP, Bool.false_eq_true, ↓reduceIte, List.length_append, List.length_map, List.length_replicate] at h2 ⊢
              omega)
            obtain ⟨lq, -, -, -, hdl⟩ := (unhide HL0).last
            have HLS := hide (wnext_any false (unhide HS0).z (by have := (unhide HL0).pl; have := unhide HXX; omega) (by have := unhide HXX; omega))
            have HLN := hide ((unhide HL0).next false)
            clear hdl
            obtain ⟨az, cz, hza, -, -⟩ := own_sl (unhide HS0).z.p
            obtain ⟨ad, cd, hzd, -, -⟩ := own_sl (unhide HS0).z.d
            generalize hmz : ZP.length = mz at hza
            generalize hnz : ZD.length = nz at hzd
            subst hza hzd
            clear hmz hnz
            have z0 : wr.cell? ⟨gz, 0, none⟩ = some (.slice az mz cz) := (unhide HS0).bz.cell 0
            have z1 : wr.cell? ⟨gz, 1, none⟩ = some (.slice ad nz cd) := (unhide HS0).bz.cell 1
            go_wp2_with fail
            refine Calls.mono (unhide HLS) ?_
            rintro e v8 ⟨vP8, vD8, rfl, hz8, hb8⟩
            clear z0 z1
            obtain ⟨ap, cp, hzp, -, -⟩ := own_sl hz8.p
            obtain ⟨aq, cq, hzq, -, -⟩ := own_sl hz8.d
            generalize hmp : (ZP ++ [[]]).length = mp at hzp
            generalize hnp : (ZD ++ [_]).length = nq at hzq
            subst hzp hzq
            clear hmp hnp
            have HSW := hide ((unhide HS0).call (hb8))
            have HST := hide ((unhide HSW).store (hz8.base (unhide HS0).bel.size))
            have HBV := hide hb8
            clear hz8 hb8
            have fr0 := (unhide HSW).bz.frozen 0
            have fr1 := (unhide HSW).bz.frozen 1
            have z0 : v8.cell? ⟨gz, 0, none⟩ = some (.slice az mz cz) := (unhide HSW).bz.cell 0
            have z1 : v8.cell? ⟨gz, 1, none⟩ = some (.slice ad nz cd) := (unhide HSW).bz.cell 1
            go_wp2_with fail
            exact ⟨⟨j + 1, by omega, by simp, hide ⟨_, _, _, _, unhide HST, by have h := unhide HLN; rw [rep_k] at h; exact h⟩⟩, by simp [intOf] <;> omega⟩
          · obtain rfl : rn = j := by omega
            have HEF : Hid (((x ++ List.replicate rn At.k) ++ q.map .p) ++ R = T) := hide (by have h := unhide HE0; simp only [mtP, Bool.false_eq_true, ↓reduceIte] at h; rw [unhide HRN] at h; simpa [List.append_assoc] using h)
            have HX8 : Hid ((x ++ List.replicate rn At.k).length ≤ 65536) := hide (by have h := unhide HEF; rw [List.append_assoc] at h; exact apM_le h (unhide HMM))
            go_wp2_with fail
            obtain ⟨lq, hlq, hcl, hll, hdl⟩ := (unhide HL0).last
            have HLS := hide (wlast_any (r := q) ((unhide HS0).call (Below.refl _ _).drew).z (unhide HS0).bel.size (unhide HL0).pl hlq (by have := (unhide HL0).pl; have := unhide HX8; omega) (by have h1 := txB_le hcl; have h2 := txB_le (unhide HCQ); have h3 := unhide HX8; have h4 := unhide HQL; omega))
            have HLN := hide ((unhide HL0).more hlq (unhide HCQ))
            clear hlq hcl hll hdl
            obtain ⟨az, cz, hza, -, -⟩ := own_sl (unhide HS0).z.p
            obtain ⟨ad, cd, hzd, -, -⟩ := own_sl (unhide HS0).z.d
            generalize hmz : ZP.length = mz at hza
            generalize hnz : ZD.length = nz at hzd
            subst hza hzd
            clear hmz hnz
            have HSS : Hid (∀ W, Below wr.heap.size wr W → W.cell? ⟨gz, 0, none⟩ = some (.slice az mz cz) ∧ W.cell? ⟨gz, 1, none⟩ = some (.slice ad nz cd) ∧ W.cell? ⟨gX, 0, none⟩ = some (.slice (some ⟨xp, 0, none⟩) m m) ∧ W.cell? ⟨xp, i, none⟩ = some (.string (txB q))) := hide (fun W hW => ⟨((unhide HS0).call hW).bz.cell 0, ((unhide HS0).call hW).bz.cell 1, ((unhide HS0).call hW).x.cell 0, ((unhide HXA W ((unhide HS0).call hW).bel).cp (unhide HQ)).1⟩)
            refine wp_region_T (S := fun W => W.cell? ⟨gz, 0, none⟩ = some (.slice az mz cz) ∧ W.cell? ⟨gz, 1, none⟩ = some (.slice ad nz cd) ∧ W.cell? ⟨gX, 0, none⟩ = some (.slice (some ⟨xp, 0, none⟩) m m) ∧ W.cell? ⟨xp, i, none⟩ = some (.string (txB q))) (fun i => decide (i < 7)) (by kernel_rfl) (unhide HSS _ (Below.refl _ _).drew) (fun hHeld => ?_)
            refine tk 0 (v := .agg #[.slice az mz cz, .slice ad nz cd]) rfl (Or.inl ⟨by rfl, ?_⟩) hHeld ?_
            · intro w hSw
              obtain ⟨s0, s1, s2, s3⟩ := hSw
              first
                | rfl
                | (go_simp; done)
            try go_frame
            refine tk 1 (v := .pointer (some ⟨gX, 0, none⟩)) rfl (Or.inl ⟨by rfl, ?_⟩) hHeld ?_
            · intro w hSw
              obtain ⟨s0, s1, s2, s3⟩ := hSw
              first
                | rfl
                | (go_simp; done)
            try go_frame
            refine tk 2 (v := .slice (some ⟨xp, 0, none⟩) m m) rfl (Or.inl ⟨by rfl, ?_⟩) hHeld ?_
            · intro w hSw
              obtain ⟨s0, s1, s2, s3⟩ := hSw
              first
                | rfl
                | (go_simp; done)
            try go_frame
            refine tk 3 (v := .int .i64 (i : Int)) rfl (Or.inl ⟨by rfl, ?_⟩) hHeld ?_
            · intro w hSw
              obtain ⟨s0, s1, s2, s3⟩ := hSw
              first
                | rfl
                | (go_simp; done)
            try go_frame
            refine tk 4 (v := .pointer (some ⟨xp, i, none⟩)) rfl (Or.inl ⟨by rfl, ?_⟩) hHeld ?_
            · intro w hSw
              obtain ⟨s0, s1, s2, s3⟩ := hSw
              first
                | rfl
                | (go_simp; done)
            try go_frame
            refine tk 5 (v := .string (txB q)) rfl (Or.inl ⟨by rfl, ?_⟩) hHeld ?_
            · intro w hSw
              obtain ⟨s0, s1, s2, s3⟩ := hSw
              first
                | rfl
                | (go_simp; done)
            try go_frame
            skip
            refine wpAnyT_one (i := 6) (o := { dst := some 45, op := Op.call { callee := Callee.value (Operand.func 84), args := #[Operand.tmp 39, Operand.tmp 44], argTypes := #[113, 9] }, type := 113, pos := "ref.go:291", after := #[{ on := 0, ground := Ground.data }, { on := 5, ground := Ground.data }], guard := none }) (by kernel_rfl) rfl (fun K hK => ?_)
            go_simp
            refine Calls.mono (unhide HLS) ?_
            rintro e v2 ⟨vP2, rfl, hz2, hb2⟩
            obtain ⟨ap, cp, hzp, -, -⟩ := own_sl hz2.p
            generalize hmp : (List.set _ _ _).length = mp at hzp
            subst hzp
            clear hmp
            have HSW := hide ((unhide HS0).call ((Below.refl _ _).drew.trans hb2))
            have HST := hide ((unhide HSW).store hz2)
            have HBV := hide hb2
            clear hz2 hb2
            go_wp2_with fail
            refine hK.out _ _ (fun _ => unhide HSS _ ((Below.refl _ _).drew.trans (unhide HBV))) ?_
            clear hK K
            try go_frame
            have fr0 := (unhide HSW).bz.frozen 0
            have fr1 := (unhide HSW).bz.frozen 1
            have z0 : v2.cell? ⟨gz, 0, none⟩ = some (.slice az mz cz) := (unhide HSW).bz.cell 0
            have z1 : v2.cell? ⟨gz, 1, none⟩ = some (.slice ad nz cd) := (unhide HSW).bz.cell 1
            refine wpAnyT_one (i := 7) (o := { dst := none, op := Op.store 113 (Operand.tmp 7) (Operand.tmp 45), type := 0, pos := "ref.go:291", after := #[{ on := 6, ground := Ground.data }, { on := 6, ground := Ground.chain }, { on := 0, ground := Ground.phase }, { on := 1, ground := Ground.phase }, { on := 2, ground := Ground.phase }, { on := 3, ground := Ground.phase }, { on := 4, ground := Ground.phase }, { on := 5, ground := Ground.phase }, { on := 6, ground := Ground.phase }], guard := none }) (by kernel_rfl) rfl (fun K hK => ?_)
            go_simp
            refine hK.out _ _ (fun h => by cases h) ?_
            clear hK K
            try go_frame
            refine wpAnyT_done (by kernel_rfl) ?_ _
            obtain ⟨u2, hu2⟩ : ∃ z, (v2.setCell ⟨gz, 0, none⟩ (.slice ap mp cp)).setCell ⟨gz, 1, none⟩ (.slice ad nz cd) = z := ⟨_, rfl⟩
            simp only [hu2] at HST ⊢
            obtain ⟨zP, zD, ZP, ZD, hS_, hL_⟩ : ∃ zP zD ZP ZD, MS w u2 gX gY gr gz [.slice (some ⟨xp, 0, none⟩) m m, .slice (some ⟨xd, 0, none⟩) n n] [.slice (some ⟨yp, 0, none⟩) m m, .slice (some ⟨yd, 0, none⟩) n n] zP zD ZP ZD ∧ ZL ZP ZD ((x ++ List.replicate rn At.k) ++ q.map At.p) := ⟨_, _, _, _, unhide HST, unhide HLN⟩
            have HS2 := hide hS_
            have HL2 := hide hL_
            clear hu2 hS_ hL_ HSW HSS HLS HBV HST HLN fr0 fr1 z0 z1
            have e0 : u2.cell? ⟨gX, 1, none⟩ = some (.slice (some ⟨xd, 0, none⟩) n n) := (unhide HS2).x.cell 1
            have e1 : u2.cell? ⟨gY, 1, none⟩ = some (.slice (some ⟨yd, 0, none⟩) n n) := (unhide HS2).y.cell 1
            by_cases hin2 : i < n
            · obtain ⟨b, c, hb, hc, hRR⟩ := unhide HR2 hin2
              have e2 : u2.cell? ⟨yd, i, none⟩ = some (.bool c) := ((unhide HYA _ (unhide HS2).bel).cd hc).1
              have HBB := hide hb
              have hiI : (i : Int) < (n : Int) := by omega
              rw [hRR] at HEF
              have HXX := hide (apM_le (unhide HEF) (unhide HMM))
              clear hb hc hRR
              cases c with
              | true =>
                go_wp2_with fail
                exact ⟨⟨i + 1, by omega, by simp, hide ⟨_, _, _, _, _, unhide HS2, unhide HL2, unhide HEF⟩⟩, by simp [intOf] <;> omega⟩
              | false =>
                go_wp2_with fail
                obtain ⟨lq, -, -, -, hdl⟩ := (unhide HL2).last
                have HLS := hide (wnext_any b ((unhide HS2).call (Below.refl _ _).drew).z (by have := (unhide HL2).pl; have := unhide HXX; omega) (by have := unhide HXX; omega))
                have HLN := hide ((unhide HL2).next b)
                clear hdl
                obtain ⟨az, cz, hza, -, -⟩ := own_sl (unhide HS2).z.p
                obtain ⟨ad, cd, hzd, -, -⟩ := own_sl (unhide HS2).z.d
                generalize hmz : ZP.length = mz at hza
                generalize hnz : ZD.length = nz at hzd
                subst hza hzd
                clear hmz hnz
                have HSS : Hid (∀ W, Below u2.heap.size u2 W → W.cell? ⟨gz, 0, none⟩ = some (.slice az mz cz) ∧ W.cell? ⟨gz, 1, none⟩ = some (.slice ad nz cd) ∧ W.cell? ⟨gX, 1, none⟩ = some (.slice (some ⟨xd, 0, none⟩) n n) ∧ W.cell? ⟨xd, i, none⟩ = some (.bool b)) := hide (fun W hW => ⟨((unhide HS2).call hW).bz.cell 0, ((unhide HS2).call hW).bz.cell 1, ((unhide HS2).call hW).x.cell 1, ((unhide HXA W ((unhide HS2).call hW).bel).cd (unhide HBB)).1⟩)
                refine wp_region_T (S := fun W => W.cell? ⟨gz, 0, none⟩ = some (.slice az mz cz) ∧ W.cell? ⟨gz, 1, none⟩ = some (.slice ad nz cd) ∧ W.cell? ⟨gX, 1, none⟩ = some (.slice (some ⟨xd, 0, none⟩) n n) ∧ W.cell? ⟨xd, i, none⟩ = some (.bool b)) (fun i => decide (i < 7)) (by kernel_rfl) (unhide HSS _ (Below.refl _ _).drew) (fun hHeld => ?_)
                refine tk 0 (v := .agg #[.slice az mz cz, .slice ad nz cd]) rfl (Or.inl ⟨by rfl, ?_⟩) hHeld ?_
                · intro w hSw
                  obtain ⟨s0, s1, s2, s3⟩ := hSw
                  first
                    | rfl
                    | (go_simp; done)
                try go_frame
                refine tk 1 (v := .pointer (some ⟨gX, 1, none⟩)) rfl (Or.inl ⟨by rfl, ?_⟩) hHeld ?_
                · intro w hSw
                  obtain ⟨s0, s1, s2, s3⟩ := hSw
                  first
                    | rfl
                    | (go_simp; done)
                try go_frame
                refine tk 2 (v := .slice (some ⟨xd, 0, none⟩) n n) rfl (Or.inl ⟨by rfl, ?_⟩) hHeld ?_
                · intro w hSw
                  obtain ⟨s0, s1, s2, s3⟩ := hSw
                  first
                    | rfl
                    | (go_simp; done)
                try go_frame
                refine tk 3 (v := .int .i64 (i : Int)) rfl (Or.inl ⟨by rfl, ?_⟩) hHeld ?_
                · intro w hSw
                  obtain ⟨s0, s1, s2, s3⟩ := hSw
                  first
                    | rfl
                    | (go_simp; done)
                try go_frame
                refine tk 4 (v := .pointer (some ⟨xd, i, none⟩)) rfl (Or.inl ⟨by rfl, ?_⟩) hHeld ?_
                · intro w hSw
                  obtain ⟨s0, s1, s2, s3⟩ := hSw
                  first
                    | rfl
                    | (go_simp; done)
                try go_frame
                refine tk 5 (v := .bool b) rfl (Or.inl ⟨by rfl, ?_⟩) hHeld ?_
                · intro w hSw
                  obtain ⟨s0, s1, s2, s3⟩ := hSw
                  first
                    | rfl
                    | (go_simp; done)
                try go_frame
                refine wpAnyT_one (i := 6) (o := { dst := some 65, op := Op.call { callee := Callee.value (Operand.func 85), args := #[Operand.tmp 59, Operand.tmp 64], argTypes := #[113, 4] }, type := 113, pos := "ref.go:294", after := #[{ on := 0, ground := Ground.data }, { on := 5, ground := Ground.data }], guard := none }) (by kernel_rfl) rfl (fun K hK => ?_)
                go_simp
                refine Calls.mono (unhide HLS) ?_
                rintro e v9 ⟨vP9, vD9, rfl, hz9, hb9⟩
                obtain ⟨ap, cp, hzp, -, -⟩ := own_sl hz9.p
                obtain ⟨aq, cq, hzq, -, -⟩ := own_sl hz9.d
                generalize hmp : (ZP ++ [[]]).length = mp at hzp
                generalize hnp : (ZD ++ [_]).length = nq at hzq
                subst hzp hzq
                clear hmp hnp
                have HSW := hide ((unhide HS2).call ((Below.refl _ _).drew.trans hb9))
                have HST := hide ((unhide HSW).store (hz9.base (unhide HS2).bel.size))
                have HBV := hide hb9
                clear hz9 hb9
                have fr0 := (unhide HSW).bz.frozen 0
                have fr1 := (unhide HSW).bz.frozen 1
                have z0 : v9.cell? ⟨gz, 0, none⟩ = some (.slice az mz cz) := (unhide HSW).bz.cell 0
                have z1 : v9.cell? ⟨gz, 1, none⟩ = some (.slice ad nz cd) := (unhide HSW).bz.cell 1
                go_wp2_with fail
                refine hK.out _ _ (fun _ => unhide HSS _ ((Below.refl _ _).drew.trans (unhide HBV))) ?_
                clear hK K
                try go_frame
                refine wpAnyT_one (i := 7) (o := { dst := none, op := Op.store 113 (Operand.tmp 7) (Operand.tmp 65), type := 0, pos := "ref.go:294", after := #[{ on := 6, ground := Ground.data }, { on := 6, ground := Ground.chain }, { on := 0, ground := Ground.phase }, { on := 1, ground := Ground.phase }, { on := 2, ground := Ground.phase }, { on := 3, ground := Ground.phase }, { on := 4, ground := Ground.phase }, { on := 5, ground := Ground.phase }, { on := 6, ground := Ground.phase }], guard := none }) (by kernel_rfl) rfl (fun K hK => ?_)
                go_simp
                refine hK.out _ _ (fun h => by cases h) ?_
                clear hK K
                try go_frame
                refine wpAnyT_done (by kernel_rfl) ?_ _
                obtain ⟨u9, hu9⟩ : ∃ z, (v9.setCell ⟨gz, 0, none⟩ (.slice ap mp cp)).setCell ⟨gz, 1, none⟩ (.slice aq nq cq) = z := ⟨_, rfl⟩
                simp only [hu9] at HST ⊢
                have HS9 := HST
                have HL9 := HLN
                clear hu9 HSW HSS HLS HBV HST HLN fr0 fr1 z0 z1
                go_wp2_with fail
                exact ⟨⟨i + 1, by omega, by simp, hide ⟨_, _, _, _, _, unhide HS9, unhide HL9, by have h := unhide HEF; rw [← h]; simp [kp]⟩⟩, by simp [intOf] <;> omega⟩
            · obtain rfl : n = i := by omega
              have hR0 := unhide HR3 rfl
              rw [hR0, List.append_nil] at HEF
              clear hR0
              go_wp2_with fail
              exact ⟨⟨n + 1, by omega, by simp, hide ⟨_, _, _, _, _, unhide HS2, unhide HL2, by rw [mt_over (unhide HXL) (unhide HYL) false (show n + 1 = n + 1 from rfl), List.append_nil]; exact unhide HEF⟩⟩, by simp [intOf] <;> omega⟩
      · obtain rfl : m = i := by omega
        rw [mt_over (unhide HXL) (unhide HYL) false (unhide HM), List.append_nil] at heq
        obtain ⟨az, cz, hza, -, -⟩ := own_sl hms.z.p
        obtain ⟨ad, cd, hzd, -, -⟩ := own_sl hms.z.d
        generalize hmz : ZP.length = mz at hza
        generalize hnz : ZD.length = nz at hzd
        subst hza hzd
        clear hmz hnz
        have z0 : wr.cell? ⟨gz, 0, none⟩ = some (.slice az mz cz) := hms.bz.cell 0
        have z1 : wr.cell? ⟨gz, 1, none⟩ = some (.slice ad nz cd) := hms.bz.cell 1
        have y0 : wr.cell? ⟨gr, 0, none⟩ = some (.slice none 0 0) := hms.r.cell 0
        have y1 : wr.cell? ⟨gr, 1, none⟩ = some (.slice none 0 0) := hms.r.cell 1
        have f0 := hms.r.frozen 0
        have f1 := hms.r.frozen 1
        have HEQ : Hid (ZL ZP ZD T) := hide (by rw [← heq]; exact hzl)
        have HFI : Hid (RowAt ((wr.setCell ⟨gr, 0, none⟩ (.slice az mz cz)).setCell ⟨gr, 1, none⟩ (.slice ad nz cd)) gr 113 [.slice az mz cz, .slice ad nz cd] ∧ Wd ((wr.setCell ⟨gr, 0, none⟩ (.slice az mz cz)).setCell ⟨gr, 1, none⟩ (.slice ad nz cd)) w.heap.size (.slice az mz cz) (.slice ad nz cd) ZP ZD ∧ Below w.heap.size w ((wr.setCell ⟨gr, 0, none⟩ (.slice az mz cz)).setCell ⟨gr, 1, none⟩ (.slice ad nz cd))) := hide (by
          obtain ⟨n1, n2⟩ := hms.z.row_ne hms.r (by decide) (by decide)
          exact ⟨(hms.r.set 0 _).set 1 _, (hms.z.other n1 n2).other n1 n2, (hms.bel.setCell (unhide HGR) _).setCell (unhide HGR) _⟩)
        clear hms hzl heq HZ HS0 HL0
        go_wp2_with fail
        obtain ⟨wF, hF⟩ : ∃ z, (wr.setCell ⟨gr, 0, none⟩ (.slice az mz cz)).setCell ⟨gr, 1, none⟩ (.slice ad nz cd) = z := ⟨_, rfl⟩
        simp only [hF] at HFI ⊢
        clear hF
        have q0 : wF.cell? ⟨gr, 0, none⟩ = some (.slice az mz cz) := (unhide HFI).1.cell 0
        have q1 : wF.cell? ⟨gr, 1, none⟩ = some (.slice ad nz cd) := (unhide HFI).1.cell 1
        refine bodyPost_ret (v := .agg #[.slice az mz cz, .slice ad nz cd]) (by simp [results, Tryd.results72, go_sem, q0, q1]) rfl ?_
        exact ⟨_, _, ZP, ZD, rfl, (unhide HFI).2.1, unhide HEQ, (unhide HFI).2.2⟩
end Go.Proofs.YtonabfpgdgnpnaaDoor
