/- The document's own disk: what is appended, byte by byte. -/
import Derived.Test.YtadjgljimikodaaRef2
import Derived.Test.YtadjgljimikodaaConcat
namespace Go.Proofs.Ytadjgljimikodaa
set_option linter.unusedVariables false
set_option linter.unusedSimpArgs false
open Go.ChangeShapes Go.WideShapes Go.ChangeAt Go.RowKit

theorem Dk.fresh_file {w : World} {g B i : Nat} {S : Nat → Value} {e : DS} {v : Value} {l : List Nat} (h : Dk w g S e) (hi : i < 3) (hB : ∀ k, Ft g S k → k < B) (hv : New B w v l) (hok : ({ e with F := upd e.F i l } : DS).used ≤ e.room) :
    Dk (w.setCell ⟨g, i, none⟩ v) g (upd S i v) { e with F := upd e.F i l } := by
  have hO : Only (fun k => k = g) w (w.setCell ⟨g, i, none⟩ v) := (Only.refl (fun k => k = g) w).set _ _ _ rfl
  have hgB : g < B := hB g (.inl rfl)
  have hlt : ∀ j, j < 3 → ∀ k, (S j).ownBlock = some k → k < B := fun j hj k hk => hB k (.inr ⟨j, hj, hk⟩)
  have hge : ∀ k, v.ownBlock = some k → B ≤ k := fun k hk => (hv.lt k hk).1
  refine ⟨h.cells.setFile i hi v, ⟨fun j hj => ?_, fun j hj q => ?_, fun j k hj hk hne m hm => ?_⟩, ⟨h.ok.room1, h.ok.room2, hok, h.ok.fuse⟩⟩
  · by_cases ej : j = i
    · subst ej; rw [upd_same]; show World.ownsRow _ 0 5 1 v (upd e.F j l j).length (bv (upd e.F j l j)); rw [upd_same]
      exact own_zero (hv.only hO (fun k hk _ q => by omega))
    · rw [upd_other _ _ _ _ ej]; show World.ownsRow _ 0 5 1 (S j) (upd e.F i l j).length (bv (upd e.F i l j)); rw [upd_other _ _ _ _ ej]
      exact hO.own (h.rows.own j hj) (fun k hk q => h.rows.far j hj (q ▸ hk))
  · by_cases ej : j = i
    · subst ej; rw [upd_same] at q; have := hge g q; omega
    · rw [upd_other _ _ _ _ ej] at q; exact h.rows.far j hj q
  · by_cases ej : j = i
    · subst ej
      rw [upd_same] at hm
      rw [upd_other _ _ _ _ (fun q => hne q.symm)]
      intro q
      have := hge m hm
      have := hlt k hk m q
      omega
    · rw [upd_other _ _ _ _ ej] at hm
      by_cases ek : k = i
      · subst ek
        rw [upd_same]
        intro q
        have := hge m q
        have := hlt j hj m hm
        omega
      · rw [upd_other _ _ _ _ ek]; exact h.rows.apart j k hj hk hne m hm
theorem Only.low {p : Nat → Prop} {a b c : World} (h : Only p a b) (k : Below a.heap.size b c) : Only p a c :=
  ⟨k.os.trans h.os, k.tape.trans h.tape, k.output.trans h.output, Nat.le_trans h.size k.size, fun i hi hn => (k.block i hi).trans (h.block i hi hn)⟩
theorem DS.burn_next {d : DS} (hon : d.on = true) {k : Nat} (h : (d.burnD k).on = true) : (d.burnD k).burnD 1 = d.burnD (k + 1) := by
  unfold DS.burnD at *
  by_cases h0 : d.fuse = 0
  · simp [h0]
  · rw [if_neg h0] at h ⊢
    by_cases h1 : d.fuse ≤ k
    · rw [if_pos h1] at h; cases h
    · rw [if_neg h1]
      rw [if_neg h0]
      have h2 : ¬ (({ d with fuse := d.fuse - k } : DS).fuse = 0) := by show ¬ (d.fuse - k = 0); omega
      rw [if_neg h2]
      by_cases h3 : d.fuse ≤ k + 1
      · rw [if_pos h3, if_pos (by show d.fuse - k ≤ 1; omega)]
      · rw [if_neg h3, if_neg (by show ¬ (d.fuse - k ≤ 1); omega)]
        show ({ d with fuse := d.fuse - k - 1 } : DS) = _
        rw [Nat.sub_sub]
theorem DS.burn_zero (d : DS) : d.burnD 0 = d := by
  unfold DS.burnD
  by_cases h0 : d.fuse = 0
  · simp [h0]
  · rw [if_neg h0, if_neg (by omega)]
    rfl
theorem DS.burn_stop {d : DS} (hon : d.on = true) {k n : Nat} (h : (d.burnD k).on = false) (hk : k ≤ d.burnN n) (hkn : k ≤ n) : k = d.burnN n := by
  unfold DS.burnD at h
  unfold DS.burnN at *
  by_cases h0 : d.fuse = 0
  · rw [if_pos h0, hon] at h; cases h
  · rw [if_neg h0] at h hk ⊢
    by_cases h1 : d.fuse ≤ k
    · omega
    · rw [if_neg h1, hon] at h; cases h
theorem DS.burn_more {d : DS} (hon : d.on = true) {k n : Nat} (h : (d.burnD k).on = true) (hkn : k < n) : k + 1 ≤ d.burnN n := by
  unfold DS.burnD at h
  unfold DS.burnN
  by_cases h0 : d.fuse = 0
  · rw [if_pos h0]; omega
  · rw [if_neg h0] at h ⊢
    by_cases h1 : d.fuse ≤ k
    · rw [if_pos h1] at h; cases h
    · omega
theorem DS.burn_all (d : DS) (n : Nat) : d.burnD (d.burnN n) = d.burnD n := by
  unfold DS.burnN DS.burnD
  by_cases h0 : d.fuse = 0
  · simp [h0]
  · rw [if_neg h0, if_neg h0, if_neg h0]
    by_cases h1 : d.fuse ≤ n
    · rw [if_pos h1, if_pos (by omega)]
    · rw [if_neg h1, if_neg (by omega)]
      congr 1
      omega
theorem DS.burn_err {d : DS} (hon : d.on = true) (n : Nat) : (d.burnD n).on = true ∧ d.burnE n = 0 ∨ (d.burnD n).on = false ∧ d.burnE n = 50 := by
  unfold DS.burnD DS.burnE
  by_cases h0 : d.fuse = 0
  · left; rw [if_pos h0, if_pos h0]; exact ⟨hon, rfl⟩
  · rw [if_neg h0, if_neg h0]
    by_cases h1 : d.fuse ≤ n
    · right; rw [if_pos h1, if_pos h1]; exact ⟨rfl, rfl⟩
    · left; rw [if_neg h1, if_neg h1]; exact ⟨hon, rfl⟩
theorem rfin {w1 wr : World} {g i : Nat} {S : Nat → Value} {d : DS} {l : List Nat} {v : Value} (hi : i < 3) (h1 : Dk w1 g S d.flip) (hfit : d.used + l.length ≤ d.room)
    (hd : Dk wr g S (d.burnD (d.burnN l.length)).flip) (ho : Only (fun k => k = g) w1 wr) (hv : New w1.heap.size wr v (d.F i ++ l.take (d.burnN l.length))) :
    Did w1 (wr.setCell ⟨g, i, none⟩ v) g S (d.put i l).flip ∧ (wr.setCell ⟨g, i, none⟩ v).cell? ⟨g, 4, none⟩ = some (.bool (!(d.burnD l.length).on)) := by
  rw [DS.burn_all] at hd
  have hF : (d.burnD l.length).flip.F = d.F := d.burnF l.length
  have hq := hd.fresh_file hi (fun k hk => h1.ft_lt hk) hv (by
    show DS.used { (d.burnD l.length).flip with F := upd (d.burnD l.length).flip.F i _ } ≤ (d.burnD l.length).room
    rw [hF, d.burn_room]
    have hle := d.burnN_le l.length
    refine Nat.le_trans ?_ hfit
    simp only [DS.used, upd]
    match i, hi with
    | 0, _ => simp [List.length_take]; omega
    | 1, _ => simp [List.length_take]; omega
    | 2, _ => simp [List.length_take]; omega)
  rw [hF] at hq
  refine ⟨⟨_, hq, ?_, ?_⟩, hq.cells.c4⟩
  · exact ((ho.mono (fun k hk => .inl hk)).set g i v (.inl rfl))
  · intro k hk
    rcases hk with rfl | ⟨j, hj, hk⟩
    · exact .inl (.inl rfl)
    · by_cases ej : j = i
      · subst ej; rw [upd_same] at hk; exact .inr (hv.lt k hk).1
      · rw [upd_other _ _ _ _ ej] at hk; exact .inl (.inr ⟨j, hj, hk⟩)

theorem rused_draws (g : Nat) (S : Nat → Value) (d : DS) (w : World) (h : Dk w g S d.flip) (n : Nat) :
    Calls Try.prog 21 #[.pointer (some ⟨g, 0, none⟩)] (w.drewN n) fun e w' => e = .returned (.int .i64 (d.used : Int)) ∧ ∃ m, w' = (w.drewN n).drewN m :=
  rused_any g S d _ (h.call (Joins.below_draws _ _ n))

set_option maxHeartbeats 1000000 in
theorem rapp_off (g : Nat) (S : Nat → Value) (d : DS) (file : Int) (v : Value) (w : World) (h : Dk w g S d.flip) (hbad : d.on = false ∨ ¬ inF file) :
    Calls Try.prog 19 #[.pointer (some ⟨g, 0, none⟩), .int .i64 file, v] w fun e w' => e = .returned (.int .i64 (d.checkF file)) ∧ w = w' := by
  have hm := rmay_any g S d file w h
  have hne : ¬ (d.checkF file = 0) := by
    unfold DS.checkF
    rcases hbad with hb | hb
    · simp [hb]
    · unfold inF at hb
      cases d.on <;> simp [hb]
  generalize d.checkF file = c at *
  go_enter Try.func19, Try.ntmps19
  go_wp2_with (go_at_call 36; refine hm.mono ?_; rintro e w' ⟨rfl, rfl⟩)
  go_ret
  exact ⟨rfl, rfl⟩
set_option maxHeartbeats 1000000 in
theorem rapp_full (g : Nat) (S : Nat → Value) (d : DS) (file : Int) (a : Option Addr) (n cap : Nat) (w : World) (h : Dk w g S d.flip) (hon : d.on = true) (hf : inF file) (hn : d.room < d.used + n) (hn2 : n ≤ 1000000000) :
    Calls Try.prog 19 #[.pointer (some ⟨g, 0, none⟩), .int .i64 file, .slice a n cap] w fun e w' => e = .returned (.int .i64 7) ∧ ∃ k, w' = w.drewN k := by
  have hm := rmay_any g S d file w h
  unfold DS.checkF at hm
  unfold inF at hf
  rw [hon, if_pos rfl, if_pos hf] at hm
  have hu := hide (rused_draws g S d w h)
  have c3 : w.cell? ⟨g, 3, none⟩ = some (.int .i64 (d.room : Int)) := h.cells.c3
  have hroom : d.room ≤ 16777216 := h.ok.room2
  have hus2 : d.used ≤ d.room := h.ok.used
  have t1 : decide ((d.room : Int) < (d.used : Int) + (n : Int)) = true := by simp; omega
  clear h
  generalize d.used = us at *
  generalize d.room = ro at *
  go_enter Try.func19, Try.ntmps19
  go_wp2_with fail
  refine hm.mono ?_
  rintro e w' ⟨rfl, rfl⟩
  go_wp2_with fail
  go_quiet ((go_at_call 21; exact Calls.quiet_of (unhide hu _)))
  go_wp2
  go_ret
  exact ⟨rfl, nq, rfl⟩

set_option maxHeartbeats 4000000 in
theorem rapp_ok0 (g : Nat) (S : Nat → Value) (d : DS) (a : Option Addr) (n cap : Nat) (l : List Nat) (w : World) (h : Dk w g S d.flip) (hon : d.on = true) (hfit : d.used + l.length ≤ d.room) (hv : Byt w (.slice a n cap) l) (hn : l.length = n) (hfar : 0 < l.length → ∀ k, (Value.slice a n cap).ownBlock = some k → k ≠ g) :
    Calls Try.prog 19 #[.pointer (some ⟨g, 0, none⟩), .int .i64 0, .slice a n cap] w fun e w' => e = .returned (.int .i64 (d.burnE n)) ∧ Did w w' g S (d.put 0 l).flip := by
  obtain ⟨i0, hi, hz0, hz1, hz2⟩ := info_parts info5
  have hm := rmay_any g S d 0 w h
  unfold DS.checkF at hm
  rw [hon, if_pos rfl, if_pos (by decide)] at hm
  have hu := hide (rused_draws g S d w h)
  have c3 : w.cell? ⟨g, 3, none⟩ = some (.int .i64 (d.room : Int)) := h.cells.c3
  have hroom : d.room ≤ 16777216 := h.ok.room2
  have hus2 : d.used ≤ d.room := h.ok.used
  have HFIT := hide hfit
  have HV := hide hv
  have HN := hide hn
  have HFAR := hide hfar
  have H0 := hide h
  rw [hn] at hfit
  have t1 : decide ((d.room : Int) < (d.used : Int) + (n : Int)) = false := by simp; omega
  have hn16 : n ≤ 16777216 := by omega
  clear h hv hn hfar
  generalize hus : d.used = us at *
  generalize hro : d.room = ro at *
  have HU := hide hus
  have HR := hide hro
  clear hus hro
  go_enter Try.func19, Try.ntmps19
  go_wp2_with fail
  refine hm.mono ?_
  rintro e w' ⟨rfl, rfl⟩
  go_wp2_with fail
  go_quiet ((go_at_call 21; exact Calls.quiet_of (unhide hu _)))
  have h1 : Dk (w.drewN nq) g S d.flip := (unhide H0).call (Joins.below_draws _ _ nq)
  have hv1 : Byt (w.drewN nq) (.slice a n cap) l := (unhide HV).call (Joins.below_draws _ _ nq)
  have hb01 : Below w.heap.size w (w.drewN nq) := Joins.below_draws _ _ nq
  generalize w.drewN nq = w1 at *
  obtain ⟨aS, cS, hS⟩ := h1.shape 0 (by decide)
  have hbS := Byt.of_own (h1.rows.own 0 (by decide))
  rw [hS] at hbS
  have hlF : (d.F 0).length ≤ 16777216 := h1.ok.len 0 (by decide)
  replace hS : S 0 = .slice aS (d.F 0).length cS := hS
  replace hbS : Byt w1 (.slice aS (d.F 0).length cS) (d.F 0) := hbS
  have c := h1.cells.c0
  rw [hS] at c
  have hgz : g < w1.heap.size := h1.cells.lt
  have cA := cell_keep ((Below.refl w1.heap.size w1).alloc (Nat.le_refl _) (.cells #[] 5)) hgz c
  have hB : Below w1.heap.size w1 (w1.alloc (.cells #[] 5)) := (Below.refl _ _).alloc (Nat.le_refl _) _
  have hsrc := byt_src (hbS.call hB) rfl
  have hown : (w1.alloc (.cells #[] 5)).ownsRow w1.heap.size 5 1 (.slice (some ⟨w1.heap.size, 0, none⟩) 0 0) 0 [] := World.ownsRow_made w1 #[] 0 (Nat.le_refl _) (Nat.zero_le _) rfl
  have HSRC := hide hsrc
  have HB := hide hB
  have H1 := hide h1
  have HV1 := hide hv1
  have HB01 := hide hb01
  have HLF : Hid ((bv (d.F 0)).length = (d.F 0).length * 1) := hide (by rw [bv_len]; omega)
  clear hsrc hB h1 hv1 hbS hb01 hS
  obtain ⟨nS, hnS⟩ : ∃ m, (d.F 0).length = m := ⟨_, rfl⟩
  rw [hnS] at c cA HSRC HLF hlF
  have HNS := hide hnS
  clear hnS
  go_wp2_with (at_builtin; refine wpList_append_src _ rfl _ _ 32 rfl w1.heap.size 5 i0 (.int .u8 0) 1 1 Try.underlying32 hi hz0 hz1 hz2 rfl (by decide) _ _ _ rfl hown aS nS cS (bv (d.F 0)) rfl (unhide HLF) (unhide HSRC).1 (unhide HSRC).2 (bv_one _) ?c3 ?c4 ?c5 ?_)
  case c3 => unfold maxLen; omega
  case c4 => omega
  case c5 => simp
  intro a2 c2 w2 ho2 hg2
  have hb2 : Below w1.heap.size w1 w2 := (unhide HB).grown hg2 (unhide HB).size (fun k hk => by simp [Value.ownBlock] at hk; omega)
  try simp only [Nat.zero_add, List.nil_append] at ho2
  try rw [Nat.zero_add]
  have HO2 := hide ho2
  have HB2 := hide hb2
  clear ho2 hg2 hb2 hown c cA
  go_wp2_with fail
  go_loopw [8, 10, 37] (fun v _ ix wr => ∃ k : Nat, k ≤ n ∧ k ≤ d.burnN n ∧ ix = .int .i64 k ∧ (∃ a' c', v = .slice a' (nS + k) c') ∧ wr.ownsRow w1.heap.size 5 1 v (nS + k) (bv (d.F 0 ++ l.take k)) ∧ Dk wr g S (d.burnD k).flip ∧ Only (fun x => x = g) w1 wr) (fun _ _ ix _ => n - (intOf ix).toNat)
  case atStart => exact ⟨0, by omega, by omega, rfl, ⟨_, _, rfl⟩, by simpa using unhide HO2, by rw [DS.burn_zero]; exact (unhide H1).call (unhide HB2), Only.of_below (unhide HB2)⟩
  case round =>
    obtain ⟨k, hk, hkb, rfl, ⟨a3, c3', rfl⟩, ho, hd, hon1⟩ := hrel
    have c4 := hd.cells.c4
    replace c4 : wr.cell? ⟨g, 4, none⟩ = some (.bool (!(d.burnD k).on)) := c4
    have cI := hd.cells.c0
    have zI := hd.cells.z0
    obtain ⟨aI, pI, eI⟩ := hd.shape 0 (by decide)
    rw [eI] at cI
    have hwz := hon1.size
    by_cases hkn : k < n
    · have i1 : (k : Int) < (n : Int) := by omega
      have i00 : (0 : Int) ≤ (k : Int) := by omega
      have hbr : Byt wr (.slice a n cap) l := hon1.byt (unhide HV1) (fun x hx q => by
        have := unhide HFAR (by rw [unhide HN]; omega) x hx
        exact this q)
      obtain ⟨y, hy⟩ : ∃ y, l[k]? = some y := ⟨_, List.getElem?_eq_getElem (by rw [unhide HN]; exact hkn)⟩
      obtain ⟨bb, off, rfl, hcell⟩ : ∃ bb off, a = some ⟨bb, off, none⟩ ∧ wr.cell? ⟨bb, off + k, none⟩ = some (.int .u8 (y : Int)) := by
        rcases hbr with ⟨e, h0⟩ | ⟨ad, cap', e, _, _, h3⟩
        · rw [h0] at hy; simp at hy
        · injection e with e1 _ _
          have q := h3 k y hy
          obtain ⟨bb, off, spot⟩ := ad
          have hspot : spot = none := by
            have q2 := World.cell?_spot (h3 0 _ (List.getElem?_eq_getElem (by rw [unhide HN]; omega)))
            simpa [Addr.add] using q2
          subst hspot
          rw [add_plain] at q
          exact ⟨bb, off, e1, q⟩
      have HYY := hide hy
      clear hbr hy
      cases hbo : (d.burnD k).on
      · have hkk := DS.burn_stop hon hbo hkb hk
        rw [hbo] at c4
        have hf := rfin (i := 0) (l := l) (v := .slice a3 (nS + k) c3') (by decide) (unhide H1) (by rw [unhide HU, unhide HR]; exact unhide HFIT) (by rw [unhide HN, ← hkk]; exact hd) hon1 (by
          rw [unhide HN, ← hkk]
          exact own_cast ho (by rw [List.length_append, List.length_take, unhide HN, unhide HNS]; omega) rfl)
        have he : d.burnE n = 50 ∧ (d.burnD l.length).on = false := by
          have q : (d.burnD n).on = false := by rw [← DS.burn_all, ← hkk]; exact hbo
          rcases DS.burn_err hon n with ⟨q1, q2⟩ | ⟨q1, q2⟩
          · rw [q] at q1; cases q1
          · exact ⟨q2, by rw [unhide HN]; exact q⟩
        have c5 := hf.2
        rw [he.2] at c5
        have HE := hide he.1
        have FIN := hide (Did.behind (unhide HB01) hf.1)
        clear hf he hd ho hon1 eI hkk hbo
        go_wp2
        go_ret
        exact ⟨by rw [unhide HE]; rfl, unhide FIN⟩
      · rw [hbo] at c4
        have hnext : bv (d.F 0 ++ l.take (k + 1)) = bv (d.F 0 ++ l.take k) ++ [.int .u8 (y : Int)] := by
          have hkl := (List.getElem?_eq_some_iff.1 (unhide HYY)).1
          have hyl := (List.getElem?_eq_some_iff.1 (unhide HYY)).2
          rw [List.take_succ_eq_append_getElem hkl, hyl, ← List.append_assoc, bv_append]
          rfl
        have HNX := hide hnext
        have hal : Below wr.heap.size wr (wr.alloc (.cells #[.int .u8 (y : Int)] 5)) := (Below.refl _ _).alloc (Nat.le_refl _) _
        have HD := hide hd
        have HO := hide hon1
        have HAL := hide hal
        have HBO := hide hbo
        clear hnext hal hd hbo cI eI hon1
        go_wp2_with (at_builtin; refine wpList_append_src _ rfl _ _ 32 rfl w1.heap.size 5 i0 (.int .u8 0) 1 1 Try.underlying32 hi hz0 hz1 hz2 rfl (by decide) _ _ _ rfl (ho.alloc _) (some ⟨wr.heap.size, 0, none⟩) 1 1 [.int .u8 (y : Int)] rfl rfl ?c6 ?c1 ?c2 ?c3 ?c4 ?c5 ?_)
        case c6 => intro q; cases q
        case c1 =>
          intro b' hb' j x hj
          injection hb' with hb'
          subst hb'
          exact cell_one_new _ _ _ j x hj
        case c2 => intro x hx; simp at hx; subst hx; rfl
        case c3 => unfold maxLen; omega
        case c4 => omega
        case c5 => simp; omega
        intro a5 c5 w5 ho5 hg5
        have hb5 : Below w1.heap.size wr w5 := ((unhide HAL).mono hwz).grown hg5 (by simp; omega) (fun x hx => (ho.lt x hx).1)
        have hd5 : Dk w5 g S (d.burnD k).flip := (unhide HD).keep (p := fun x => ¬ x < w1.heap.size) (Only.of_low hb5) (fun x hx q => q ((unhide H1).ft_lt hx))
        have hO5 := (unhide HO).low hb5
        have KB := hide (rburn_any g S (d.burnD k) w5 hd5)
        have HO5 := hide hO5
        have HOW := hide ho5
        clear hb5 hd5 hO5 hg5 ho
        go_wp2_with fail
        refine (unhide KB).mono ?_
        clear KB
        rintro e w6 ⟨⟨v, rfl⟩, hd6, ho6⟩
        rw [DS.burn_next hon (unhide HBO)] at hd6
        have ho6w : w6.ownsRow w1.heap.size 5 1 (.slice a5 (nS + k + 1) c5) (nS + k + 1) (bv (d.F 0 ++ l.take (k + 1))) := by
          rw [unhide HNX]
          exact ho6.own (unhide HOW) (fun x hx q => by have := ((unhide HOW).lt x hx).1; omega)
        have FIN := hide (And.intro ho6w (And.intro hd6 ((unhide HO5).trans ho6)))
        have HMORE := hide (DS.burn_more hon (unhide HBO) hkn)
        clear hd6 ho6 ho6w
        go_wp2
        go_roundw
        case rel => exact ⟨k + 1, by omega, unhide HMORE, by go_num, ⟨a5, c5, by rw [Nat.add_assoc]⟩, unhide FIN⟩
        case measure => simp [intOf]; omega
    · have hkn2 : k = n := by omega
      subst hkn2
      have hkk : d.burnN k = k := by have := d.burnN_le k; omega
      have hf := rfin (i := 0) (l := l) (v := .slice a3 (nS + k) c3') (by decide) (unhide H1) (by rw [unhide HU, unhide HR]; exact unhide HFIT) (by rw [unhide HN, hkk]; exact hd) hon1 (by
        rw [unhide HN, hkk]
        exact own_cast ho (by rw [List.length_append, List.length_take, unhide HN, unhide HNS]; omega) rfl)
      have c5 := hf.2
      rw [unhide HN] at c5
      have FIN := hide (Did.behind (unhide HB01) hf.1)
      clear hf hd ho hon1 eI hkk
      rcases DS.burn_err hon k with ⟨q1, q2⟩ | ⟨q1, q2⟩
      · rw [q1] at c4 c5
        have HE := hide q2
        clear q1 q2
        go_wp2
        go_ret
        exact ⟨by rw [unhide HE]; rfl, unhide FIN⟩
      · rw [q1] at c4 c5
        have HE := hide q2
        clear q1 q2
        go_wp2
        go_ret
        exact ⟨by rw [unhide HE]; rfl, unhide FIN⟩

set_option maxHeartbeats 4000000 in
theorem rapp_ok1 (g : Nat) (S : Nat → Value) (d : DS) (a : Option Addr) (n cap : Nat) (l : List Nat) (w : World) (h : Dk w g S d.flip) (hon : d.on = true) (hfit : d.used + l.length ≤ d.room) (hv : Byt w (.slice a n cap) l) (hn : l.length = n) (hfar : 0 < l.length → ∀ k, (Value.slice a n cap).ownBlock = some k → k ≠ g) :
    Calls Try.prog 19 #[.pointer (some ⟨g, 0, none⟩), .int .i64 1, .slice a n cap] w fun e w' => e = .returned (.int .i64 (d.burnE n)) ∧ Did w w' g S (d.put 1 l).flip := by
  obtain ⟨i0, hi, hz0, hz1, hz2⟩ := info_parts info5
  have hm := rmay_any g S d 1 w h
  unfold DS.checkF at hm
  rw [hon, if_pos rfl, if_pos (by decide)] at hm
  have hu := hide (rused_draws g S d w h)
  have c3 : w.cell? ⟨g, 3, none⟩ = some (.int .i64 (d.room : Int)) := h.cells.c3
  have hroom : d.room ≤ 16777216 := h.ok.room2
  have hus2 : d.used ≤ d.room := h.ok.used
  have HFIT := hide hfit
  have HV := hide hv
  have HN := hide hn
  have HFAR := hide hfar
  have H0 := hide h
  rw [hn] at hfit
  have t1 : decide ((d.room : Int) < (d.used : Int) + (n : Int)) = false := by simp; omega
  have hn16 : n ≤ 16777216 := by omega
  clear h hv hn hfar
  generalize hus : d.used = us at *
  generalize hro : d.room = ro at *
  have HU := hide hus
  have HR := hide hro
  clear hus hro
  go_enter Try.func19, Try.ntmps19
  go_wp2_with fail
  refine hm.mono ?_
  rintro e w' ⟨rfl, rfl⟩
  go_wp2_with fail
  go_quiet ((go_at_call 21; exact Calls.quiet_of (unhide hu _)))
  have h1 : Dk (w.drewN nq) g S d.flip := (unhide H0).call (Joins.below_draws _ _ nq)
  have hv1 : Byt (w.drewN nq) (.slice a n cap) l := (unhide HV).call (Joins.below_draws _ _ nq)
  have hb01 : Below w.heap.size w (w.drewN nq) := Joins.below_draws _ _ nq
  generalize w.drewN nq = w1 at *
  obtain ⟨aS, cS, hS⟩ := h1.shape 1 (by decide)
  have hbS := Byt.of_own (h1.rows.own 1 (by decide))
  rw [hS] at hbS
  have hlF : (d.F 1).length ≤ 16777216 := h1.ok.len 1 (by decide)
  replace hS : S 1 = .slice aS (d.F 1).length cS := hS
  replace hbS : Byt w1 (.slice aS (d.F 1).length cS) (d.F 1) := hbS
  have c := h1.cells.c1
  rw [hS] at c
  have hgz : g < w1.heap.size := h1.cells.lt
  have cA := cell_keep ((Below.refl w1.heap.size w1).alloc (Nat.le_refl _) (.cells #[] 5)) hgz c
  have hB : Below w1.heap.size w1 (w1.alloc (.cells #[] 5)) := (Below.refl _ _).alloc (Nat.le_refl _) _
  have hsrc := byt_src (hbS.call hB) rfl
  have hown : (w1.alloc (.cells #[] 5)).ownsRow w1.heap.size 5 1 (.slice (some ⟨w1.heap.size, 0, none⟩) 0 0) 0 [] := World.ownsRow_made w1 #[] 0 (Nat.le_refl _) (Nat.zero_le _) rfl
  have HSRC := hide hsrc
  have HB := hide hB
  have H1 := hide h1
  have HV1 := hide hv1
  have HB01 := hide hb01
  have HLF : Hid ((bv (d.F 1)).length = (d.F 1).length * 1) := hide (by rw [bv_len]; omega)
  clear hsrc hB h1 hv1 hbS hb01 hS
  obtain ⟨nS, hnS⟩ : ∃ m, (d.F 1).length = m := ⟨_, rfl⟩
  rw [hnS] at c cA HSRC HLF hlF
  have HNS := hide hnS
  clear hnS
  go_wp2_with (at_builtin; refine wpList_append_src _ rfl _ _ 32 rfl w1.heap.size 5 i0 (.int .u8 0) 1 1 Try.underlying32 hi hz0 hz1 hz2 rfl (by decide) _ _ _ rfl hown aS nS cS (bv (d.F 1)) rfl (unhide HLF) (unhide HSRC).1 (unhide HSRC).2 (bv_one _) ?c3 ?c4 ?c5 ?_)
  case c3 => unfold maxLen; omega
  case c4 => omega
  case c5 => simp
  intro a2 c2 w2 ho2 hg2
  have hb2 : Below w1.heap.size w1 w2 := (unhide HB).grown hg2 (unhide HB).size (fun k hk => by simp [Value.ownBlock] at hk; omega)
  try simp only [Nat.zero_add, List.nil_append] at ho2
  try rw [Nat.zero_add]
  have HO2 := hide ho2
  have HB2 := hide hb2
  clear ho2 hg2 hb2 hown c cA
  go_wp2_with fail
  go_loopw [8, 10, 37] (fun v _ ix wr => ∃ k : Nat, k ≤ n ∧ k ≤ d.burnN n ∧ ix = .int .i64 k ∧ (∃ a' c', v = .slice a' (nS + k) c') ∧ wr.ownsRow w1.heap.size 5 1 v (nS + k) (bv (d.F 1 ++ l.take k)) ∧ Dk wr g S (d.burnD k).flip ∧ Only (fun x => x = g) w1 wr) (fun _ _ ix _ => n - (intOf ix).toNat)
  case atStart => exact ⟨0, by omega, by omega, rfl, ⟨_, _, rfl⟩, by simpa using unhide HO2, by rw [DS.burn_zero]; exact (unhide H1).call (unhide HB2), Only.of_below (unhide HB2)⟩
  case round =>
    obtain ⟨k, hk, hkb, rfl, ⟨a3, c3', rfl⟩, ho, hd, hon1⟩ := hrel
    have c4 := hd.cells.c4
    replace c4 : wr.cell? ⟨g, 4, none⟩ = some (.bool (!(d.burnD k).on)) := c4
    have cI := hd.cells.c1
    have zI := hd.cells.z1
    obtain ⟨aI, pI, eI⟩ := hd.shape 1 (by decide)
    rw [eI] at cI
    have hwz := hon1.size
    by_cases hkn : k < n
    · have i1 : (k : Int) < (n : Int) := by omega
      have i00 : (0 : Int) ≤ (k : Int) := by omega
      have hbr : Byt wr (.slice a n cap) l := hon1.byt (unhide HV1) (fun x hx q => by
        have := unhide HFAR (by rw [unhide HN]; omega) x hx
        exact this q)
      obtain ⟨y, hy⟩ : ∃ y, l[k]? = some y := ⟨_, List.getElem?_eq_getElem (by rw [unhide HN]; exact hkn)⟩
      obtain ⟨bb, off, rfl, hcell⟩ : ∃ bb off, a = some ⟨bb, off, none⟩ ∧ wr.cell? ⟨bb, off + k, none⟩ = some (.int .u8 (y : Int)) := by
        rcases hbr with ⟨e, h0⟩ | ⟨ad, cap', e, _, _, h3⟩
        · rw [h0] at hy; simp at hy
        · injection e with e1 _ _
          have q := h3 k y hy
          obtain ⟨bb, off, spot⟩ := ad
          have hspot : spot = none := by
            have q2 := World.cell?_spot (h3 0 _ (List.getElem?_eq_getElem (by rw [unhide HN]; omega)))
            simpa [Addr.add] using q2
          subst hspot
          rw [add_plain] at q
          exact ⟨bb, off, e1, q⟩
      have HYY := hide hy
      clear hbr hy
      cases hbo : (d.burnD k).on
      · have hkk := DS.burn_stop hon hbo hkb hk
        rw [hbo] at c4
        have hf := rfin (i := 1) (l := l) (v := .slice a3 (nS + k) c3') (by decide) (unhide H1) (by rw [unhide HU, unhide HR]; exact unhide HFIT) (by rw [unhide HN, ← hkk]; exact hd) hon1 (by
          rw [unhide HN, ← hkk]
          exact own_cast ho (by rw [List.length_append, List.length_take, unhide HN, unhide HNS]; omega) rfl)
        have he : d.burnE n = 50 ∧ (d.burnD l.length).on = false := by
          have q : (d.burnD n).on = false := by rw [← DS.burn_all, ← hkk]; exact hbo
          rcases DS.burn_err hon n with ⟨q1, q2⟩ | ⟨q1, q2⟩
          · rw [q] at q1; cases q1
          · exact ⟨q2, by rw [unhide HN]; exact q⟩
        have c5 := hf.2
        rw [he.2] at c5
        have HE := hide he.1
        have FIN := hide (Did.behind (unhide HB01) hf.1)
        clear hf he hd ho hon1 eI hkk hbo
        go_wp2
        go_ret
        exact ⟨by rw [unhide HE]; rfl, unhide FIN⟩
      · rw [hbo] at c4
        have hnext : bv (d.F 1 ++ l.take (k + 1)) = bv (d.F 1 ++ l.take k) ++ [.int .u8 (y : Int)] := by
          have hkl := (List.getElem?_eq_some_iff.1 (unhide HYY)).1
          have hyl := (List.getElem?_eq_some_iff.1 (unhide HYY)).2
          rw [List.take_succ_eq_append_getElem hkl, hyl, ← List.append_assoc, bv_append]
          rfl
        have HNX := hide hnext
        have hal : Below wr.heap.size wr (wr.alloc (.cells #[.int .u8 (y : Int)] 5)) := (Below.refl _ _).alloc (Nat.le_refl _) _
        have HD := hide hd
        have HO := hide hon1
        have HAL := hide hal
        have HBO := hide hbo
        clear hnext hal hd hbo cI eI hon1
        go_wp2_with (at_builtin; refine wpList_append_src _ rfl _ _ 32 rfl w1.heap.size 5 i0 (.int .u8 0) 1 1 Try.underlying32 hi hz0 hz1 hz2 rfl (by decide) _ _ _ rfl (ho.alloc _) (some ⟨wr.heap.size, 0, none⟩) 1 1 [.int .u8 (y : Int)] rfl rfl ?c6 ?c1 ?c2 ?c3 ?c4 ?c5 ?_)
        case c6 => intro q; cases q
        case c1 =>
          intro b' hb' j x hj
          injection hb' with hb'
          subst hb'
          exact cell_one_new _ _ _ j x hj
        case c2 => intro x hx; simp at hx; subst hx; rfl
        case c3 => unfold maxLen; omega
        case c4 => omega
        case c5 => simp; omega
        intro a5 c5 w5 ho5 hg5
        have hb5 : Below w1.heap.size wr w5 := ((unhide HAL).mono hwz).grown hg5 (by simp; omega) (fun x hx => (ho.lt x hx).1)
        have hd5 : Dk w5 g S (d.burnD k).flip := (unhide HD).keep (p := fun x => ¬ x < w1.heap.size) (Only.of_low hb5) (fun x hx q => q ((unhide H1).ft_lt hx))
        have hO5 := (unhide HO).low hb5
        have KB := hide (rburn_any g S (d.burnD k) w5 hd5)
        have HO5 := hide hO5
        have HOW := hide ho5
        clear hb5 hd5 hO5 hg5 ho
        go_wp2_with fail
        refine (unhide KB).mono ?_
        clear KB
        rintro e w6 ⟨⟨v, rfl⟩, hd6, ho6⟩
        rw [DS.burn_next hon (unhide HBO)] at hd6
        have ho6w : w6.ownsRow w1.heap.size 5 1 (.slice a5 (nS + k + 1) c5) (nS + k + 1) (bv (d.F 1 ++ l.take (k + 1))) := by
          rw [unhide HNX]
          exact ho6.own (unhide HOW) (fun x hx q => by have := ((unhide HOW).lt x hx).1; omega)
        have FIN := hide (And.intro ho6w (And.intro hd6 ((unhide HO5).trans ho6)))
        have HMORE := hide (DS.burn_more hon (unhide HBO) hkn)
        clear hd6 ho6 ho6w
        go_wp2
        go_roundw
        case rel => exact ⟨k + 1, by omega, unhide HMORE, by go_num, ⟨a5, c5, by rw [Nat.add_assoc]⟩, unhide FIN⟩
        case measure => simp [intOf]; omega
    · have hkn2 : k = n := by omega
      subst hkn2
      have hkk : d.burnN k = k := by have := d.burnN_le k; omega
      have hf := rfin (i := 1) (l := l) (v := .slice a3 (nS + k) c3') (by decide) (unhide H1) (by rw [unhide HU, unhide HR]; exact unhide HFIT) (by rw [unhide HN, hkk]; exact hd) hon1 (by
        rw [unhide HN, hkk]
        exact own_cast ho (by rw [List.length_append, List.length_take, unhide HN, unhide HNS]; omega) rfl)
      have c5 := hf.2
      rw [unhide HN] at c5
      have FIN := hide (Did.behind (unhide HB01) hf.1)
      clear hf hd ho hon1 eI hkk
      rcases DS.burn_err hon k with ⟨q1, q2⟩ | ⟨q1, q2⟩
      · rw [q1] at c4 c5
        have HE := hide q2
        clear q1 q2
        go_wp2
        go_ret
        exact ⟨by rw [unhide HE]; rfl, unhide FIN⟩
      · rw [q1] at c4 c5
        have HE := hide q2
        clear q1 q2
        go_wp2
        go_ret
        exact ⟨by rw [unhide HE]; rfl, unhide FIN⟩

set_option maxHeartbeats 4000000 in
theorem rapp_ok2 (g : Nat) (S : Nat → Value) (d : DS) (a : Option Addr) (n cap : Nat) (l : List Nat) (w : World) (h : Dk w g S d.flip) (hon : d.on = true) (hfit : d.used + l.length ≤ d.room) (hv : Byt w (.slice a n cap) l) (hn : l.length = n) (hfar : 0 < l.length → ∀ k, (Value.slice a n cap).ownBlock = some k → k ≠ g) :
    Calls Try.prog 19 #[.pointer (some ⟨g, 0, none⟩), .int .i64 2, .slice a n cap] w fun e w' => e = .returned (.int .i64 (d.burnE n)) ∧ Did w w' g S (d.put 2 l).flip := by
  obtain ⟨i0, hi, hz0, hz1, hz2⟩ := info_parts info5
  have hm := rmay_any g S d 2 w h
  unfold DS.checkF at hm
  rw [hon, if_pos rfl, if_pos (by decide)] at hm
  have hu := hide (rused_draws g S d w h)
  have c3 : w.cell? ⟨g, 3, none⟩ = some (.int .i64 (d.room : Int)) := h.cells.c3
  have hroom : d.room ≤ 16777216 := h.ok.room2
  have hus2 : d.used ≤ d.room := h.ok.used
  have HFIT := hide hfit
  have HV := hide hv
  have HN := hide hn
  have HFAR := hide hfar
  have H0 := hide h
  rw [hn] at hfit
  have t1 : decide ((d.room : Int) < (d.used : Int) + (n : Int)) = false := by simp; omega
  have hn16 : n ≤ 16777216 := by omega
  clear h hv hn hfar
  generalize hus : d.used = us at *
  generalize hro : d.room = ro at *
  have HU := hide hus
  have HR := hide hro
  clear hus hro
  go_enter Try.func19, Try.ntmps19
  go_wp2_with fail
  refine hm.mono ?_
  rintro e w' ⟨rfl, rfl⟩
  go_wp2_with fail
  go_quiet ((go_at_call 21; exact Calls.quiet_of (unhide hu _)))
  have h1 : Dk (w.drewN nq) g S d.flip := (unhide H0).call (Joins.below_draws _ _ nq)
  have hv1 : Byt (w.drewN nq) (.slice a n cap) l := (unhide HV).call (Joins.below_draws _ _ nq)
  have hb01 : Below w.heap.size w (w.drewN nq) := Joins.below_draws _ _ nq
  generalize w.drewN nq = w1 at *
  obtain ⟨aS, cS, hS⟩ := h1.shape 2 (by decide)
  have hbS := Byt.of_own (h1.rows.own 2 (by decide))
  rw [hS] at hbS
  have hlF : (d.F 2).length ≤ 16777216 := h1.ok.len 2 (by decide)
  replace hS : S 2 = .slice aS (d.F 2).length cS := hS
  replace hbS : Byt w1 (.slice aS (d.F 2).length cS) (d.F 2) := hbS
  have c := h1.cells.c2
  rw [hS] at c
  have hgz : g < w1.heap.size := h1.cells.lt
  have cA := cell_keep ((Below.refl w1.heap.size w1).alloc (Nat.le_refl _) (.cells #[] 5)) hgz c
  have hB : Below w1.heap.size w1 (w1.alloc (.cells #[] 5)) := (Below.refl _ _).alloc (Nat.le_refl _) _
  have hsrc := byt_src (hbS.call hB) rfl
  have hown : (w1.alloc (.cells #[] 5)).ownsRow w1.heap.size 5 1 (.slice (some ⟨w1.heap.size, 0, none⟩) 0 0) 0 [] := World.ownsRow_made w1 #[] 0 (Nat.le_refl _) (Nat.zero_le _) rfl
  have HSRC := hide hsrc
  have HB := hide hB
  have H1 := hide h1
  have HV1 := hide hv1
  have HB01 := hide hb01
  have HLF : Hid ((bv (d.F 2)).length = (d.F 2).length * 1) := hide (by rw [bv_len]; omega)
  clear hsrc hB h1 hv1 hbS hb01 hS
  obtain ⟨nS, hnS⟩ : ∃ m, (d.F 2).length = m := ⟨_, rfl⟩
  rw [hnS] at c cA HSRC HLF hlF
  have HNS := hide hnS
  clear hnS
  go_wp2_with (at_builtin; refine wpList_append_src _ rfl _ _ 32 rfl w1.heap.size 5 i0 (.int .u8 0) 1 1 Try.underlying32 hi hz0 hz1 hz2 rfl (by decide) _ _ _ rfl hown aS nS cS (bv (d.F 2)) rfl (unhide HLF) (unhide HSRC).1 (unhide HSRC).2 (bv_one _) ?c3 ?c4 ?c5 ?_)
  case c3 => unfold maxLen; omega
  case c4 => omega
  case c5 => simp
  intro a2 c2 w2 ho2 hg2
  have hb2 : Below w1.heap.size w1 w2 := (unhide HB).grown hg2 (unhide HB).size (fun k hk => by simp [Value.ownBlock] at hk; omega)
  try simp only [Nat.zero_add, List.nil_append] at ho2
  try rw [Nat.zero_add]
  have HO2 := hide ho2
  have HB2 := hide hb2
  clear ho2 hg2 hb2 hown c cA
  go_wp2_with fail
  go_loopw [8, 10, 37] (fun v _ ix wr => ∃ k : Nat, k ≤ n ∧ k ≤ d.burnN n ∧ ix = .int .i64 k ∧ (∃ a' c', v = .slice a' (nS + k) c') ∧ wr.ownsRow w1.heap.size 5 1 v (nS + k) (bv (d.F 2 ++ l.take k)) ∧ Dk wr g S (d.burnD k).flip ∧ Only (fun x => x = g) w1 wr) (fun _ _ ix _ => n - (intOf ix).toNat)
  case atStart => exact ⟨0, by omega, by omega, rfl, ⟨_, _, rfl⟩, by simpa using unhide HO2, by rw [DS.burn_zero]; exact (unhide H1).call (unhide HB2), Only.of_below (unhide HB2)⟩
  case round =>
    obtain ⟨k, hk, hkb, rfl, ⟨a3, c3', rfl⟩, ho, hd, hon1⟩ := hrel
    have c4 := hd.cells.c4
    replace c4 : wr.cell? ⟨g, 4, none⟩ = some (.bool (!(d.burnD k).on)) := c4
    have cI := hd.cells.c2
    have zI := hd.cells.z2
    obtain ⟨aI, pI, eI⟩ := hd.shape 2 (by decide)
    rw [eI] at cI
    have hwz := hon1.size
    by_cases hkn : k < n
    · have i1 : (k : Int) < (n : Int) := by omega
      have i00 : (0 : Int) ≤ (k : Int) := by omega
      have hbr : Byt wr (.slice a n cap) l := hon1.byt (unhide HV1) (fun x hx q => by
        have := unhide HFAR (by rw [unhide HN]; omega) x hx
        exact this q)
      obtain ⟨y, hy⟩ : ∃ y, l[k]? = some y := ⟨_, List.getElem?_eq_getElem (by rw [unhide HN]; exact hkn)⟩
      obtain ⟨bb, off, rfl, hcell⟩ : ∃ bb off, a = some ⟨bb, off, none⟩ ∧ wr.cell? ⟨bb, off + k, none⟩ = some (.int .u8 (y : Int)) := by
        rcases hbr with ⟨e, h0⟩ | ⟨ad, cap', e, _, _, h3⟩
        · rw [h0] at hy; simp at hy
        · injection e with e1 _ _
          have q := h3 k y hy
          obtain ⟨bb, off, spot⟩ := ad
          have hspot : spot = none := by
            have q2 := World.cell?_spot (h3 0 _ (List.getElem?_eq_getElem (by rw [unhide HN]; omega)))
            simpa [Addr.add] using q2
          subst hspot
          rw [add_plain] at q
          exact ⟨bb, off, e1, q⟩
      have HYY := hide hy
      clear hbr hy
      cases hbo : (d.burnD k).on
      · have hkk := DS.burn_stop hon hbo hkb hk
        rw [hbo] at c4
        have hf := rfin (i := 2) (l := l) (v := .slice a3 (nS + k) c3') (by decide) (unhide H1) (by rw [unhide HU, unhide HR]; exact unhide HFIT) (by rw [unhide HN, ← hkk]; exact hd) hon1 (by
          rw [unhide HN, ← hkk]
          exact own_cast ho (by rw [List.length_append, List.length_take, unhide HN, unhide HNS]; omega) rfl)
        have he : d.burnE n = 50 ∧ (d.burnD l.length).on = false := by
          have q : (d.burnD n).on = false := by rw [← DS.burn_all, ← hkk]; exact hbo
          rcases DS.burn_err hon n with ⟨q1, q2⟩ | ⟨q1, q2⟩
          · rw [q] at q1; cases q1
          · exact ⟨q2, by rw [unhide HN]; exact q⟩
        have c5 := hf.2
        rw [he.2] at c5
        have HE := hide he.1
        have FIN := hide (Did.behind (unhide HB01) hf.1)
        clear hf he hd ho hon1 eI hkk hbo
        go_wp2
        go_ret
        exact ⟨by rw [unhide HE]; rfl, unhide FIN⟩
      · rw [hbo] at c4
        have hnext : bv (d.F 2 ++ l.take (k + 1)) = bv (d.F 2 ++ l.take k) ++ [.int .u8 (y : Int)] := by
          have hkl := (List.getElem?_eq_some_iff.1 (unhide HYY)).1
          have hyl := (List.getElem?_eq_some_iff.1 (unhide HYY)).2
          rw [List.take_succ_eq_append_getElem hkl, hyl, ← List.append_assoc, bv_append]
          rfl
        have HNX := hide hnext
        have hal : Below wr.heap.size wr (wr.alloc (.cells #[.int .u8 (y : Int)] 5)) := (Below.refl _ _).alloc (Nat.le_refl _) _
        have HD := hide hd
        have HO := hide hon1
        have HAL := hide hal
        have HBO := hide hbo
        clear hnext hal hd hbo cI eI hon1
        go_wp2_with (at_builtin; refine wpList_append_src _ rfl _ _ 32 rfl w1.heap.size 5 i0 (.int .u8 0) 1 1 Try.underlying32 hi hz0 hz1 hz2 rfl (by decide) _ _ _ rfl (ho.alloc _) (some ⟨wr.heap.size, 0, none⟩) 1 1 [.int .u8 (y : Int)] rfl rfl ?c6 ?c1 ?c2 ?c3 ?c4 ?c5 ?_)
        case c6 => intro q; cases q
        case c1 =>
          intro b' hb' j x hj
          injection hb' with hb'
          subst hb'
          exact cell_one_new _ _ _ j x hj
        case c2 => intro x hx; simp at hx; subst hx; rfl
        case c3 => unfold maxLen; omega
        case c4 => omega
        case c5 => simp; omega
        intro a5 c5 w5 ho5 hg5
        have hb5 : Below w1.heap.size wr w5 := ((unhide HAL).mono hwz).grown hg5 (by simp; omega) (fun x hx => (ho.lt x hx).1)
        have hd5 : Dk w5 g S (d.burnD k).flip := (unhide HD).keep (p := fun x => ¬ x < w1.heap.size) (Only.of_low hb5) (fun x hx q => q ((unhide H1).ft_lt hx))
        have hO5 := (unhide HO).low hb5
        have KB := hide (rburn_any g S (d.burnD k) w5 hd5)
        have HO5 := hide hO5
        have HOW := hide ho5
        clear hb5 hd5 hO5 hg5 ho
        go_wp2_with fail
        refine (unhide KB).mono ?_
        clear KB
        rintro e w6 ⟨⟨v, rfl⟩, hd6, ho6⟩
        rw [DS.burn_next hon (unhide HBO)] at hd6
        have ho6w : w6.ownsRow w1.heap.size 5 1 (.slice a5 (nS + k + 1) c5) (nS + k + 1) (bv (d.F 2 ++ l.take (k + 1))) := by
          rw [unhide HNX]
          exact ho6.own (unhide HOW) (fun x hx q => by have := ((unhide HOW).lt x hx).1; omega)
        have FIN := hide (And.intro ho6w (And.intro hd6 ((unhide HO5).trans ho6)))
        have HMORE := hide (DS.burn_more hon (unhide HBO) hkn)
        clear hd6 ho6 ho6w
        go_wp2
        go_roundw
        case rel => exact ⟨k + 1, by omega, unhide HMORE, by go_num, ⟨a5, c5, by rw [Nat.add_assoc]⟩, unhide FIN⟩
        case measure => simp [intOf]; omega
    · have hkn2 : k = n := by omega
      subst hkn2
      have hkk : d.burnN k = k := by have := d.burnN_le k; omega
      have hf := rfin (i := 2) (l := l) (v := .slice a3 (nS + k) c3') (by decide) (unhide H1) (by rw [unhide HU, unhide HR]; exact unhide HFIT) (by rw [unhide HN, hkk]; exact hd) hon1 (by
        rw [unhide HN, hkk]
        exact own_cast ho (by rw [List.length_append, List.length_take, unhide HN, unhide HNS]; omega) rfl)
      have c5 := hf.2
      rw [unhide HN] at c5
      have FIN := hide (Did.behind (unhide HB01) hf.1)
      clear hf hd ho hon1 eI hkk
      rcases DS.burn_err hon k with ⟨q1, q2⟩ | ⟨q1, q2⟩
      · rw [q1] at c4 c5
        have HE := hide q2
        clear q1 q2
        go_wp2
        go_ret
        exact ⟨by rw [unhide HE]; rfl, unhide FIN⟩
      · rw [q1] at c4 c5
        have HE := hide q2
        clear q1 q2
        go_wp2
        go_ret
        exact ⟨by rw [unhide HE]; rfl, unhide FIN⟩

theorem rappend_any (g : Nat) (S : Nat → Value) (d : DS) (file : Int) (v : Value) (l : List Nat) (w : World) (h : Dk w g S d.flip) (hv : Byt w v l) (hl : l.length ≤ 1000000000) (hfar : 0 < l.length → ∀ k, v.ownBlock = some k → k ≠ g) :
    Calls Try.prog 19 #[.pointer (some ⟨g, 0, none⟩), .int .i64 file, v] w fun e w' => e = .returned (.int .i64 (d.appE file l.length)) ∧ Did w w' g S (d.appD file l).flip := by
  by_cases hbad : d.on = false ∨ ¬ inF file
  · refine (rapp_off g S d file v w h hbad).mono ?_
    rintro e w' ⟨rfl, rfl⟩
    have e1 : d.checkF file = d.appE file l.length := by
      unfold DS.checkF DS.appE
      rcases hbad with hb | hb
      · simp [hb]
      · have hb' := hb
        unfold inF at hb'
        cases d.on <;> simp [hb, hb']
    have e2 : d.appD file l = d := by
      unfold DS.appD
      rcases hbad with hb | hb
      · simp [hb]
      · cases d.on <;> simp [hb]
    rw [e1, e2]
    exact ⟨rfl, Did.same h (Only.refl _ _)⟩
  · have hon : d.on = true := by cases hd : d.on; exact absurd (.inl hd) hbad; rfl
    have hf : inF file := Classical.byContradiction fun q => hbad (.inr q)
    obtain ⟨a, cap, rfl⟩ := byt_shape hv
    by_cases hfull : d.room < d.used + l.length
    · refine (rapp_full g S d file a l.length cap w h hon hf hfull hl).mono ?_
      rintro e w' ⟨rfl, k, rfl⟩
      simp only [DS.appE, DS.appD, hon, hf, hfull, if_true]
      exact ⟨trivial, Did.same (h.call (Joins.below_draws _ _ k)) (Only.of_below (Joins.below_draws _ _ k))⟩
    · have hE : d.appE file l.length = d.burnE l.length := by simp only [DS.appE, hon, hf, hfull, if_true, if_false]
      have hD : d.appD file l = d.put file.toNat l := by simp only [DS.appD, hon, hf, hfull, if_true, if_false]
      rw [hE, hD]
      unfold inF at hf
      rcases (show file = 0 ∨ file = 1 ∨ file = 2 by omega) with rfl | rfl | rfl
      · exact rapp_ok0 g S d a l.length cap l w h hon (by omega) hv rfl hfar
      · exact rapp_ok1 g S d a l.length cap l w h hon (by omega) hv rfl hfar
      · exact rapp_ok2 g S d a l.length cap l w h hon (by omega) hv rfl hfar
end Go.Proofs.Ytadjgljimikodaa
