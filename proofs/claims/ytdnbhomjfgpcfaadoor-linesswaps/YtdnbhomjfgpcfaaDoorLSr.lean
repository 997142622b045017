/- The document's Swap. -/
import Derived.Test.YtdnbhomjfgpcfaaDoorLFn
import Derived.Test.YtdnbhomjfgpcfaaDoorLRP
import Derived.Test.YtdnbhomjfgpcfaaDoorRnm
namespace Go.Proofs.YtdnbhomjfgpcfaaDoor
set_option linter.unusedVariables false
set_option linter.unusedSimpArgs false
open Go.ChangeShapes Go.WideShapes Go.ChangeAt Go.RowKit Go.Joins Go.Deep

theorem OwnP.app {w : World} {B : Nat} {v : Value} {l m : List Pt} (h : w.ownsRow B 91 3 v (l.length + m.length) (ptc l ++ ptc m)) : OwnP w B v (l ++ m) := by
  unfold OwnP
  rw [List.length_append, ptc_app]
  exact h
/-- what the document's Swap has made so far -/
structure QS (w wr : World) (B g : Nat) (vr vp ov : Value) (cs cp : List (List UInt8)) (ws : List (List UInt8)) (z k skip : Nat) (L : List Pt) : Prop where
  rs : RS (rni cp) ws (rni cs) z k skip L
  ix : RIx wr B g vr cs
  pat : wr.ownsRow w.heap.size 21 1 vp cp.length (rnv cp)
  out : OwnP wr w.heap.size ov L
  bel : Below w.heap.size w wr
theorem QS.step {w wr w2 w3 : World} {B g : Nat} {vr vp ov v' : Value} {cs cp ws : List (List UInt8)} {z k skip k' skip' : Nat} {L M : List Pt} (h : QS w wr B g vr vp ov cs cp ws z k skip L) (hal : Below wr.heap.size wr w2) (hg : w2.grownBy w3 ov.ownBlock) (ho : w3.ownsRow w.heap.size 91 3 v' (L.length + M.length) (ptc L ++ ptc M)) (hr : RS (rni cp) ws (rni cs) z k' skip' (L ++ M)) : QS w w3 B g vr vp v' cs cp ws z k' skip' (L ++ M) := by
  have o3 := grown_only hg
  have hO : w2.ownsRow w.heap.size 91 3 ov L.length (ptc L) := own_call h.out hal
  have hX := h.ix.call hal
  have hP := own_call h.pat hal
  have hB := h.bel.trans (hal.mono h.bel.size)
  exact ⟨hr, ⟨hX.row.only o3 (fun hp => tag_ne hO hX.row (by decide) hp), own_only hX.r o3 (fun q hq hp => own_ne hX.r hO (by decide) q hq hp), hX.gB⟩, own_only hP o3 (fun q hq hp => own_ne hP hO (by decide) q hq hp), OwnP.app ho, hB.trans (o3.below hB.size (fun q hq => (hO.lt q hq).1))⟩
theorem swap_done {P : List Int} {ws : List (List UInt8)} {T : List Int} {z skip : Nat} {L : List Pt} (h : RS P ws T z T.length skip L) : NfG 0 (rnormL L) ∧ atomsL (rnormL L) = At.can (swA P ws T) := by
  obtain ⟨h1, h2⟩ := rnorm_good L
  rw [h.ends] at h2
  exact ⟨h1, h2⟩
set_option maxRecDepth 100000 in
set_option maxHeartbeats 4000000 in
theorem rswap_ok {w : World} {B g : Nat} {vr : Value} {cs : List (List UInt8)} (h : RIx w B g vr cs) (s t : ByteArray) (hl : cs.length ≤ 1048576) (hs : s.size ≤ 1048576) (ht : t.size ≤ 1048576) : Calls Tryd.prog 33 #[.pointer (some ⟨g, 0, none⟩), .string s, .string t] w fun r w' => SwapR s t cs w r w' := by
  have K := hide (chars_any s w (by omega))
  have HI := hide h
  clear h
  go_enter Tryd.func33, Tryd.ntmps33
  go_wp2_with fail
  refine Calls.mono (unhide K) ?_
  rintro r w1 h1
  obtain ⟨v, n1, l, rfl, ho, hl2, hns, hb⟩ := h1
  have KT := hide (chars_any t w1 (by omega))
  obtain ⟨a, c, rfl, hc1, hc2⟩ := own_sl ho
  have HO := hide ho
  have HL := hide hl2
  have HI1 := hide ((unhide HI).call hb)
  have B1 := hide hb
  clear ho hl2 hb K HI
  go_wp2_with fail
  refine Calls.mono (unhide KT) ?_
  rintro r w2 h2
  obtain ⟨v3, n3, l3, rfl, ho3, hl3, hns3, hb3⟩ := h2
  obtain ⟨a3, c3, rfl, hd1, hd2⟩ := own_sl ho3
  have HL3 := hide hl3
  have HI2 := hide ((unhide HI1).call hb3)
  have HO2 := hide (own_call (unhide HO) hb3)
  have B2 := hide ((unhide B1).trans (hb3.mono (unhide B1).size))
  clear ho3 hl3 hb3 KT HI1 HO B1
  cases hv : Lib.validD s.data.toList with
  | false =>
    go_wp2_with fail
    go_ret2
    exact ⟨.inl ⟨hv, rfl⟩, unhide B2⟩
  | true =>
    obtain ⟨cp, hx⟩ := tx_of_valid hv
    obtain ⟨e1, e2⟩ := unhide HL cp hx
    subst e1 e2
    have HX := hide hx
    clear HL hx hv
    cases hv2 : Lib.validD t.data.toList with
    | false =>
      go_wp2_with fail
      go_ret2
      exact ⟨.inr ⟨cp, unhide HX, .inl ⟨hv2, rfl⟩⟩, unhide B2⟩
    | true =>
      obtain ⟨cw, hxw⟩ := tx_of_valid hv2
      obtain ⟨e1, e2⟩ := unhide HL3 cw hxw
      subst e1 e2
      have HXW := hide hxw
      clear HL3 hxw hv2
      by_cases h0 : cp = []
      · subst h0
        clear HO2 HI2
        go_wp2_with fail
        go_ret2
        exact ⟨.inr ⟨[], unhide HX, .inr ⟨cw, unhide HXW, .inl ⟨rfl, rfl⟩⟩⟩, unhide B2⟩
      · have hpos := List.length_pos_iff.2 h0
        have H0 := hide h0
        have hQ : Hid (QS w w2 B g vr (.slice a cp.length c) (.slice none 0 0) cs cp cw t.size 0 0 []) := hide ⟨RS.start _ _ _ _, unhide HI2, unhide HO2, OwnP.nil _ _, unhide B2⟩
        obtain ⟨m, hm⟩ : ∃ z, cp.length = z := ⟨_, rfl⟩
        have HM := hide hm
        obtain ⟨y, hy⟩ : ∃ z, cw.length = z := ⟨_, rfl⟩
        have HY := hide hy
        rw [hm] at hpos hc1 hns hQ ⊢
        rw [hy] at hd1 hns3 ⊢
        have hm0 : ((m : Int) == 0) = false := by simp; omega
        have hms : m ≤ 1048576 := by omega
        have hys : y ≤ 1048576 := by omega
        obtain ⟨ar, cr, e1, q0, hncr, hcm⟩ := (unhide HI2).one
        obtain ⟨n, hn⟩ : ∃ z, cs.length = z := ⟨_, rfl⟩
        have HN := hide hn
        rw [hn] at q0 hncr hl
        clear e1 hm hn h0 hy HI2 HO2 B2
        go_wp2_with fail
        go_loopw [12, 13, 39] (fun ov sk i wr => ∃ (k skip : Nat) (a2 : Option Addr) (c2 : Nat) (L : List Pt), k ≤ n ∧ i = .int .i64 (k : Int) ∧ sk = .int .i64 (skip : Int) ∧ ov = .slice a2 L.length c2 ∧ Hid (QS w wr B g vr (.slice a m c) (.slice a2 L.length c2) cs cp cw t.size k skip L)) (fun _ _ i _ => ((n : Int) - intOf i).toNat)
        case atStart => exact ⟨0, 0, none, 0, [], by omega, by simp, by simp, rfl, hQ⟩
        case round =>
          clear hQ q0
          obtain ⟨k, skip, a2, c2, L, hk, rfl, rfl, rfl, HQ⟩ := hrel
          have hsl := (unhide HQ).rs.le
          have hll := (unhide HQ).rs.len
          rw [rni_len, unhide HN] at hsl
          have HS := hide (unhide HQ).out
          obtain ⟨q, hq⟩ : ∃ z, L.length = z := ⟨_, rfl⟩
          have HLQ := hide hq
          rw [hq] at HQ HS hll ⊢
          clear hq
          by_cases c1 : (k : Int) < (n : Int)
          · by_cases cS : k < skip
            · have cSI : (k : Int) < (skip : Int) := by omega
              have HQ2 := hide (⟨(unhide HQ).rs.pass cS, (unhide HQ).ix, (unhide HQ).pat, (unhide HQ).out, (unhide HQ).bel⟩ : QS w wr B g vr (.slice a m c) (.slice a2 q c2) cs cp cw t.size (k + 1) skip L)
              clear HQ cS HS
              go_wp2_with fail
              exact ⟨⟨k + 1, skip, a2, c2, L, by omega, by simp, rfl, by rw [unhide HLQ], by rw [unhide HLQ]; exact HQ2⟩, by simp [intOf]; omega⟩
            · have cSI : ¬ (k : Int) < (skip : Int) := by omega
              have KS := hide (stands_ok (unhide HQ).ix (by rw [unhide HM]; have h9 := (unhide HQ).pat; rw [unhide HM] at h9; exact h9) k (by rw [unhide HN]; omega) (by rw [unhide HN]; omega) (by rw [unhide HM]; omega))
              have k0 : (0 : Int) ≤ (k : Int) := by omega
              cases hst : (rni cp).isPrefixOf ((rni cs).drop k) with
              | true =>
                rw [hst] at KS
                have HR := hide ((unhide HQ).rs.hit (by rw [rni_len, unhide HM]; exact hpos) (by omega) (List.isPrefixOf_iff_prefix.1 hst) (unhide HXW) (unhide HY) (by omega) (by rw [rni_len, unhide HN]; omega))
                rw [rni_len, unhide HM] at HR
                have hal : Below wr.heap.size wr (wr.alloc (.cells #[.int .i64 2, .int .i64 (y : Int), .string t, .int .i64 3, .int .i64 (m : Int), .string ⟨#[]⟩] 91)) := (Below.refl _ _).alloc (Nat.le_refl _) _
                have HAL := hide hal
                have HS2 : Hid ((wr.alloc (.cells #[.int .i64 2, .int .i64 (y : Int), .string t, .int .i64 3, .int .i64 (m : Int), .string ⟨#[]⟩] 91)).ownsRow w.heap.size 91 3 (.slice a2 q c2) q (ptc L)) := hide (by have h9 := own_call (unhide HS) hal; rw [unhide HLQ] at h9; exact h9)
                have HB2 := hide ((unhide HQ).bel.trans (hal.mono (unhide HQ).bel.size))
                have HC2 := hide (RowAt.new wr 91 [.int .i64 2, .int .i64 (y : Int), .string t, .int .i64 3, .int .i64 (m : Int), .string ⟨#[]⟩])
                clear hal hst HS
                go_wp2_with fail
                refine Calls.mono (unhide KS) ?_
                rintro r w3 ⟨rfl, rfl⟩
                clear KS
                go_wp2_with (at_builtin; refine unhide ?_)
                obtain ⟨i9, hi9, hz9, hs9, hb9⟩ := info_parts infoPt
                refine hide ?_
                refine wpList_append_own_at _ rfl _ _ 51 rfl w.heap.size 91 i9 (.agg #[.int .i64 0, .int .i64 0, .string ⟨#[]⟩]) 3 32 Tryd.underlying51 hi9 hz9 hs9 hb9 rfl (by decide) (.slice a2 q c2) q (ptc L) rfl (unhide HS2) ⟨wr.heap.size, 0, none⟩ 2 2 [.int .i64 2, .int .i64 (y : Int), .string t, .int .i64 3, .int .i64 (m : Int), .string ⟨#[]⟩] rfl rfl (fun j u hj => by
                  have h9 := (unhide HC2).cell j
                  rw [hj] at h9
                  rw [Addr.add_lit, Nat.zero_add]
                  exact h9) (fun u hu => by
                  simp only [List.mem_cons, List.not_mem_nil, or_false] at hu
                  rcases hu with rfl | rfl | rfl | rfl | rfl | rfl <;> rfl) (by unfold maxLen; omega) (by omega) (unhide HB2).size ?_
                intro v' w3 ho hg _ _
                obtain ⟨a4, c4, rfl, _, _⟩ := own_sl3 ho
                have HQ2 := hide ((unhide HQ).step (M := [⟨2, (y : Int), t⟩, ⟨3, (m : Int), ⟨#[]⟩⟩]) (unhide HAL) hg (by rw [unhide HLQ]; exact ho) (unhide HR))
                clear ho hg HQ HS2 HB2 HC2 HAL HR i9 hi9 hz9 hs9 hb9
                go_wp2_with fail
                have hl9 : (L ++ [⟨2, (y : Int), t⟩, ⟨3, (m : Int), ⟨#[]⟩⟩] : List Pt).length = q + 2 := by rw [List.length_append, unhide HLQ]; rfl
                exact ⟨⟨k + 1, k + m, a4, c4, _, by omega, by simp, by simp, by rw [hl9], by rw [hl9]; exact HQ2⟩, by simp [intOf]; omega⟩
              | false =>
                rw [hst] at KS
                have HR := hide ((unhide HQ).rs.miss (by rw [rni_len, unhide HM]; exact hpos) (by omega) (by rw [rni_len, unhide HN]; omega) (fun hp => by rw [List.isPrefixOf_iff_prefix.2 hp] at hst; cases hst))
                have hal : Below wr.heap.size wr (wr.alloc (.cells #[.int .i64 1, .int .i64 1, .string ⟨#[]⟩] 91)) := (Below.refl _ _).alloc (Nat.le_refl _) _
                have HAL := hide hal
                have HS2 : Hid ((wr.alloc (.cells #[.int .i64 1, .int .i64 1, .string ⟨#[]⟩] 91)).ownsRow w.heap.size 91 3 (.slice a2 q c2) q (ptc L)) := hide (by have h9 := own_call (unhide HS) hal; rw [unhide HLQ] at h9; exact h9)
                have HB2 := hide ((unhide HQ).bel.trans (hal.mono (unhide HQ).bel.size))
                have HC2 := hide (RowAt.new wr 91 [.int .i64 1, .int .i64 1, .string ⟨#[]⟩])
                clear hal hst HS
                go_wp2_with fail
                refine Calls.mono (unhide KS) ?_
                rintro r w3 ⟨rfl, rfl⟩
                clear KS
                go_wp2_with (at_builtin; refine unhide ?_)
                obtain ⟨i9, hi9, hz9, hs9, hb9⟩ := info_parts infoPt
                refine hide ?_
                refine wpList_append_own_at _ rfl _ _ 51 rfl w.heap.size 91 i9 (.agg #[.int .i64 0, .int .i64 0, .string ⟨#[]⟩]) 3 32 Tryd.underlying51 hi9 hz9 hs9 hb9 rfl (by decide) (.slice a2 q c2) q (ptc L) rfl (unhide HS2) ⟨wr.heap.size, 0, none⟩ 1 1 [.int .i64 1, .int .i64 1, .string ⟨#[]⟩] rfl rfl (fun j u hj => by
                  have h9 := (unhide HC2).cell j
                  rw [hj] at h9
                  rw [Addr.add_lit, Nat.zero_add]
                  exact h9) (fun u hu => by
                  simp only [List.mem_cons, List.not_mem_nil, or_false] at hu
                  rcases hu with rfl | rfl | rfl <;> rfl) (by unfold maxLen; omega) (by omega) (unhide HB2).size ?_
                intro v' w3 ho hg _ _
                obtain ⟨a4, c4, rfl, _, _⟩ := own_sl3 ho
                have HQ2 := hide ((unhide HQ).step (M := [⟨1, 1, ⟨#[]⟩⟩]) (unhide HAL) hg (by rw [unhide HLQ]; exact ho) (unhide HR))
                clear ho hg HQ HS2 HB2 HC2 HAL HR i9 hi9 hz9 hs9 hb9
                go_wp2_with fail
                have hl9 : (L ++ [⟨1, 1, ⟨#[]⟩⟩] : List Pt).length = q + 1 := by rw [List.length_append, unhide HLQ]; rfl
                exact ⟨⟨k + 1, skip, a4, c4, _, by omega, by simp, rfl, by rw [hl9], by rw [hl9]; exact HQ2⟩, by simp [intOf]; omega⟩
          · obtain rfl : n = k := by omega
            have hso := (unhide HQ).rs
            have HD := hide (swap_done (by rw [rni_len, unhide HN]; exact hso))
            obtain ⟨a5, c5, e5, hp5, _, _⟩ := (unhide HQ).out.slice
            rw [unhide HLQ] at e5
            injection e5 with e5 _ e6
            subst e5 e6
            have hst := hso.txt
            have KN := hide (rnorm_any a2 L c2 wr hp5 (by rw [unhide HLQ]; omega) (by have h9 : n * t.size ≤ 1048576 * 1048576 := Nat.mul_le_mul hl ht; omega))
            rw [unhide HLQ] at KN
            have HB := hide (unhide HQ).bel
            clear hso hp5 hst HQ HS
            go_wp2_with fail
            refine Calls.mono (unhide KN) ?_
            rintro r w9 ⟨v9, rfl, ho9, b9⟩
            have HO9 := hide (own_base ho9 (unhide HB).size)
            have B9 := hide ((unhide HB).trans (b9.mono (unhide HB).size))
            clear ho9 b9 KN
            go_wp2_with fail
            go_ret2
            exact ⟨.inr ⟨cp, unhide HX, .inr ⟨cw, unhide HXW, .inr ⟨unhide H0, _, _, rfl, unhide HO9, (unhide HD).1, (unhide HD).2⟩⟩⟩, unhide B9⟩
end Go.Proofs.YtdnbhomjfgpcfaaDoor
