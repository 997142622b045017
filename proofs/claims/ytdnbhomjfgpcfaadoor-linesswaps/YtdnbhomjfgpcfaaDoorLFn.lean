/- The document's Find. -/
import Derived.Test.YtdnbhomjfgpcfaaDoorLRN
import Derived.Test.YtdnbhomjfgpcfaaDoorLB
import Derived.Maps.AppendAt
namespace Go.Proofs.YtdnbhomjfgpcfaaDoor
set_option linter.unusedVariables false
set_option linter.unusedSimpArgs false
open Go.ChangeShapes Go.WideShapes Go.ChangeAt Go.RowKit Go.Joins Go.Deep

theorem pre_len {P T : List Int} {i : Nat} (hi : i ≤ T.length) (h : T.length < i + P.length) : P.isPrefixOf (T.drop i) = false := by
  cases hp : P.isPrefixOf (T.drop i) with
  | false => rfl
  | true =>
    exfalso
    have h1 := (List.isPrefixOf_iff_prefix.1 hp).length_le
    rw [List.length_drop] at h1
    omega
theorem pre_iff {P T : List Int} {i : Nat} : P.isPrefixOf (T.drop i) = true ↔ ∀ j x, P[j]? = some x → T[i + j]? = some x := by
  rw [List.isPrefixOf_iff_prefix, List.prefix_iff_getElem?]
  constructor
  · intro h j x hx
    obtain ⟨hj, rfl⟩ := List.getElem?_eq_some_iff.1 hx
    have := h j hj
    rwa [List.getElem?_drop] at this
  · intro h j hj
    rw [List.getElem?_drop]
    exact h j _ (List.getElem?_eq_getElem hj)
theorem pre_no {P T : List Int} {i j : Nat} {x y : Int} (hx : P[j]? = some x) (hy : T[i + j]? = some y) (h : ¬ y = x) : P.isPrefixOf (T.drop i) = false := by
  cases hp : P.isPrefixOf (T.drop i) with
  | false => rfl
  | true =>
    have := pre_iff.1 hp j x hx
    rw [hy] at this
    injection this with e
    exact absurd e h
/-- the first k code points of a pattern stand at i -/
def Sk (P T : List Int) (i k : Nat) : Prop := ∀ j x, j < k → P[j]? = some x → T[i + j]? = some x
theorem Sk.zero (P T : List Int) (i : Nat) : Sk P T i 0 := fun j x h => by omega
theorem Sk.next {P T : List Int} {i k : Nat} {x : Int} (h : Sk P T i k) (hx : P[k]? = some x) (hy : T[i + k]? = some x) : Sk P T i (k + 1) := fun j y hj hy' => by
  by_cases e : j = k
  · subst e
    rw [hx] at hy'
    injection hy' with e2
    rw [← e2]
    exact hy
  · exact h j y (by omega) hy'
theorem Sk.ends {P T : List Int} {i : Nat} (h : Sk P T i P.length) : P.isPrefixOf (T.drop i) = true := pre_iff.2 fun j x hx => h j x (List.getElem?_eq_some_iff.1 hx).1 hx
theorem rni_at {cs : List (List UInt8)} {k : Nat} {c : List UInt8} (h : cs[k]? = some c) : (rni cs)[k]? = some (rn c : Int) := by simp [rni, h]
set_option maxRecDepth 100000 in
set_option maxHeartbeats 4000000 in
theorem stands_ok {w : World} {B B' g : Nat} {vr vp : Value} {cs cp : List (List UInt8)} (h : RIx w B g vr cs) (hp : w.ownsRow B' 21 1 vp cp.length (rnv cp)) (i : Nat) (hi : i ≤ cs.length) (hl : cs.length ≤ 1099511627776) (hpl : cp.length ≤ 1099511627776) : Calls Tryd.prog 55 #[.pointer (some ⟨g, 0, none⟩), vp, .int .i64 (i : Int)] w fun r w' => r = .returned (.bool ((rni cp).isPrefixOf ((rni cs).drop i))) ∧ w = w' := by
  obtain ⟨ar, cr, rfl, q0, hncr, hcm⟩ := h.one
  obtain ⟨ap, cq, rfl, hc1, hc2⟩ := own_sl hp
  have HO := hide h.r
  have HP := hide hp
  clear h hp
  obtain ⟨n, hn⟩ : ∃ z, cs.length = z := ⟨_, rfl⟩
  obtain ⟨m, hm⟩ : ∃ z, cp.length = z := ⟨_, rfl⟩
  have HN := hide hn
  have HM := hide hm
  rw [hn] at HO q0 hncr hi hl
  rw [hm] at HP hc1 hpl ⊢
  have i0 : (0 : Int) ≤ (i : Int) := by omega
  have i1 : (i : Int) ≤ (n : Int) := by omega
  by_cases hlen : n < i + m
  · rw [pre_len (by rw [rni_len]; omega) (by rw [rni_len, rni_len]; omega)]
    have hgt : (n : Int) - (i : Int) < (m : Int) := by omega
    clear hn hm
    go_enter Tryd.func55, Tryd.ntmps55
    go_wp2_with fail
    go_ret
    exact ⟨rfl, rfl⟩
  · have hgt : ¬ (n : Int) - (i : Int) < (m : Int) := by omega
    obtain ⟨b, hb⟩ : ∃ z, (rni cp).isPrefixOf ((rni cs).drop i) = z := ⟨_, rfl⟩
    have HB := hide hb
    rw [hb]
    clear hn hm hb
    go_enter Tryd.func55, Tryd.ntmps55
    go_wp2_with fail
    go_loopw [21] (fun v wr => ∃ k : Nat, k ≤ m ∧ v = .int .i64 (k : Int) ∧ Hid (Sk (rni cp) (rni cs) i k) ∧ w = wr) (fun v _ => ((m : Int) - intOf v).toNat)
    case atStart => exact ⟨0, by omega, by simp, hide (Sk.zero _ _ _), rfl⟩
    case round =>
      obtain ⟨k, hk, rfl, HK, rfl⟩ := hrel
      by_cases c1 : (k : Int) < (m : Int)
      · obtain ⟨x, hx⟩ : ∃ x, cp[k]? = some x := ⟨_, List.getElem?_eq_getElem (by rw [unhide HM]; omega)⟩
        obtain ⟨y, hy⟩ : ∃ y, cs[i + k]? = some y := ⟨_, List.getElem?_eq_getElem (by rw [unhide HN]; omega)⟩
        obtain ⟨gp, c3, e, hce1, _, _, _⟩ := own_rd (unhide HP) (rnv_at hx)
        injection e with e1 _ e3
        subst e1 e3
        obtain ⟨gr, c4, e, hce2, _, _, _⟩ := own_rd (unhide HO) (rnv_at hy)
        injection e with e1 _ e3
        subst e1 e3
        have HX := hide (rni_at hx)
        have HY := hide (rni_at hy)
        obtain ⟨a, ha⟩ : ∃ z : Int, (rn x : Int) = z := ⟨_, rfl⟩
        obtain ⟨d, hd⟩ : ∃ z : Int, (rn y : Int) = z := ⟨_, rfl⟩
        rw [ha] at hce1 HX
        rw [hd] at hce2 HY
        have k0 : (0 : Int) ≤ (k : Int) := by omega
        have ik0 : (0 : Int) ≤ (i : Int) + (k : Int) := by omega
        have ik1 : (i : Int) + (k : Int) < (n : Int) := by omega
        clear hx hy ha hd
        by_cases he : d = a
        · have he1 : (d == a) = true := by simp [he]
          have hnx := (unhide HK).next (unhide HX) (by rw [← he]; exact unhide HY)
          have HNX := hide hnx
          have he2 : (d != a) = false := by simp [he]
          clear he hnx
          go_wp2_with fail
          exact ⟨⟨k + 1, by omega, by simp, HNX, by first | trivial | rfl⟩, by simp [intOf]; omega⟩
        · have he1 : (d == a) = false := by simp [he]
          have he2 : (d != a) = true := by simp [he]
          have HBF : Hid (b = false) := hide (by rw [← unhide HB]; exact pre_no (unhide HX) (unhide HY) he)
          clear he
          go_wp2_with fail
          go_ret
          exact ⟨by rw [unhide HBF]; rfl, rfl⟩
      · obtain rfl : m = k := by omega
        have HBT : Hid (b = true) := hide (by rw [← unhide HB]; exact Sk.ends (by rw [rni_len, unhide HM]; exact unhide HK))
        go_wp2_with fail
        go_ret
        exact ⟨by rw [unhide HBT]; rfl, rfl⟩
/-- where a pattern stands among the first k places -/
def occK (P T : List Int) (k : Nat) : List Nat := (List.range k).filter (fun i => P.isPrefixOf (T.drop i))
theorem occK_hit {P T : List Int} {k : Nat} (h : P.isPrefixOf (T.drop k) = true) : occK P T (k + 1) = occK P T k ++ [k] := by
  unfold occK
  rw [List.range_succ, List.filter_append]
  simp [h]
theorem occK_miss {P T : List Int} {k : Nat} (h : P.isPrefixOf (T.drop k) = false) : occK P T (k + 1) = occK P T k := by
  unfold occK
  rw [List.range_succ, List.filter_append]
  simp [h]
theorem occK_len (P T : List Int) (k : Nat) : (occK P T k).length ≤ k := by
  have := List.length_filter_le (fun i => P.isPrefixOf (T.drop i)) (List.range k)
  rw [List.length_range] at this
  exact this
theorem occK_L {cp cs : List (List UInt8)} (h : cp ≠ []) : occK (rni cp) (rni cs) cs.length = occL cp cs := by
  have hpos : 0 < (rni cp).length := by rw [rni_len]; exact List.length_pos_iff.2 h
  have e := occ_occI (T := rni cs) hpos
  unfold occL
  rw [← rni_len cs, e]
  rfl
def RFindR (s : ByteArray) (cs : List (List UInt8)) (w : World) (r : Ending) (w' : World) : Prop := (Lib.validD s.data.toList = false ∧ r = .returned (.tuple #[.slice none 0 0, .int .i64 21]) ∨ ∃ cp, Tx s cp ∧ (cp = [] ∧ r = .returned (.tuple #[.slice none 0 0, .int .i64 1]) ∨ cp ≠ [] ∧ ∃ v, r = .returned (.tuple #[v, .int .i64 0]) ∧ w'.ownsRow w.heap.size 3 1 v (occL cp cs).length (nsv (occL cp cs)))) ∧ Below w.heap.size w w'
theorem rfind_ok {w : World} {B g : Nat} {vr : Value} {cs : List (List UInt8)} (h : RIx w B g vr cs) (s : ByteArray) (hl : cs.length ≤ 1099511627776) (hs : s.size ≤ 1099511627776) : Calls Tryd.prog 30 #[.pointer (some ⟨g, 0, none⟩), .string s] w fun r w' => RFindR s cs w r w' := by
  have K := hide (chars_any s w hs)
  have HI := hide h
  clear h
  go_enter Tryd.func30, Tryd.ntmps30
  go_wp2_with fail
  refine Calls.mono (unhide K) ?_
  rintro r w1 h1
  obtain ⟨v, n1, l, rfl, ho, hl2, hns, hb⟩ := h1
  obtain ⟨a, c, rfl, hc1, hc2⟩ := own_sl ho
  have HO := hide ho
  have HL := hide hl2
  have HI1 := hide ((unhide HI).call hb)
  have B1 := hide hb
  clear ho hl2 hb K HI
  cases hv : Lib.validD s.data.toList with
  | false =>
    go_wp2_with fail
    go_ret2
    exact ⟨.inl ⟨hv, rfl⟩, unhide B1⟩
  | true =>
    obtain ⟨cp, hx⟩ := tx_of_valid hv
    obtain ⟨e1, e2⟩ := unhide HL cp hx
    subst e1 e2
    have HX := hide hx
    clear HL hx hv
    by_cases h0 : cp = []
    · subst h0
      clear HO HI1
      go_wp2_with fail
      go_ret2
      exact ⟨.inr ⟨[], unhide HX, .inl ⟨rfl, rfl⟩⟩, unhide B1⟩
    · have hpos := List.length_pos_iff.2 h0
      have H0 := hide h0
      obtain ⟨m, hm⟩ : ∃ z, cp.length = z := ⟨_, rfl⟩
      have HM := hide hm
      rw [hm] at HO hpos hc1 hns ⊢
      have hm0 : ((m : Int) == 0) = false := by simp; omega
      have hms : m ≤ 1099511627776 := by omega
      obtain ⟨ar, cr, e1, q0, hncr, hcm⟩ := (unhide HI1).one
      obtain ⟨n, hn⟩ : ∃ z, cs.length = z := ⟨_, rfl⟩
      have HN := hide hn
      rw [hn] at q0 hncr hl
      clear e1 hm hn h0
      go_wp2_with fail
      go_loopw [8, 25] (fun ov i wr => ∃ (k : Nat) (a2 : Option Addr) (c2 : Nat), k ≤ n ∧ i = .int .i64 (k : Int) ∧ ov = .slice a2 (occK (rni cp) (rni cs) k).length c2 ∧ Hid (wr.ownsRow w.heap.size 3 1 (.slice a2 (occK (rni cp) (rni cs) k).length c2) (occK (rni cp) (rni cs) k).length (nsv (occK (rni cp) (rni cs) k))) ∧ Hid (RIx wr B g vr cs) ∧ Hid (wr.ownsRow w.heap.size 21 1 (.slice a m c) m (rnv cp)) ∧ Hid (Below w.heap.size w wr)) (fun _ i _ => ((n : Int) - intOf i).toNat)
      case atStart => exact ⟨0, none, 0, by omega, by simp, rfl, hide (World.ownsRow_nil _ _ _ _), HI1, HO, B1⟩
      case round =>
        clear B1 HO HI1 q0
        obtain ⟨k, a2, c2, hk, rfl, rfl, HS, HI, HO, HB⟩ := hrel
        have hql := occK_len (rni cp) (rni cs) k
        obtain ⟨q, hq⟩ : ∃ z, (occK (rni cp) (rni cs) k).length = z := ⟨_, rfl⟩
        have HQ := hide hq
        rw [hq] at HS hql ⊢
        clear hq
        by_cases c1 : (k : Int) < (n : Int)
        · have KS := hide (stands_ok (unhide HI) (by rw [unhide HM]; exact unhide HO) k (by rw [unhide HN]; omega) (by rw [unhide HN]; exact hl) (by rw [unhide HM]; exact hms))
          have k0 : (0 : Int) ≤ (k : Int) := by omega
          cases hst : (rni cp).isPrefixOf ((rni cs).drop k) with
          | true =>
            rw [hst] at KS
            have HOK := hide (occK_hit hst)
            clear hst
            have hal : Below wr.heap.size wr (wr.alloc (.cells #[.int .i64 (k : Int)] 3)) := (Below.refl _ _).alloc (Nat.le_refl _) _
            have HB2 := hide ((unhide HB).trans (hal.mono (unhide HB).size))
            have HS2 := hide (own_call (unhide HS) hal)
            have HO2 := hide (own_call (unhide HO) hal)
            have HI2 := hide ((unhide HI).call hal)
            have HC2 := hide ((RowAt.new wr 3 [.int .i64 (k : Int)]).cell 0)
            clear hal HB HS HO HI
            go_wp2_with fail
            refine Calls.mono (unhide KS) ?_
            rintro r w3 ⟨rfl, rfl⟩
            clear KS
            go_wp2_with (at_builtin; refine unhide ?_)
            obtain ⟨i9, hi9, hz9, hs9, hb9⟩ := info64
            refine hide ?_
            refine wpList_append_own_at _ rfl _ _ 38 rfl w.heap.size 3 i9 (.int .i64 0) 1 8 Tryd.underlying38 hi9 hz9 hs9 hb9 rfl (by decide) (.slice a2 q c2) q (nsv (occK (rni cp) (rni cs) k)) rfl (unhide HS2) ⟨wr.heap.size, 0, none⟩ 1 1 [.int .i64 (k : Int)] rfl rfl (fun j u hj => by
              match j, hj with
              | 0, hj =>
                obtain rfl : (.int .i64 (k : Int) : Value) = u := by simpa using hj
                exact unhide HC2) (fun u hu => by rw [List.mem_singleton] at hu; rw [hu]; rfl) (by unfold maxLen; omega) (by omega) (unhide HB2).size ?_
            intro v' w3 ho hg _ _
            obtain ⟨a3, c3, rfl, _⟩ := own_sl ho
            have o3 := grown_only hg
            have HB3 := hide ((unhide HB2).trans (o3.below (unhide HB2).size (fun q hq => ((unhide HS2).lt q hq).1)))
            have HO3 := hide (own_only (unhide HO2) o3 (fun q hq hp => own_ne (unhide HO2) (unhide HS2) (by decide) q hq hp))
            have HI3 : Hid (RIx w3 B g vr cs) := hide ⟨(unhide HI2).row.only o3 (fun hp => tag_ne (unhide HS2) (unhide HI2).row (by decide) hp), own_only (unhide HI2).r o3 (fun q hq hp => own_ne (unhide HI2).r (unhide HS2) (by decide) q hq hp), (unhide HI2).gB⟩
            have HS3 := hide ho
            clear ho hg o3 HB2 HS2 HO2 HI2 HC2 i9 hi9 hz9 hs9 hb9
            go_wp2_with fail
            have hl9 : (occK (rni cp) (rni cs) (k + 1)).length = q + 1 := by rw [unhide HOK, List.length_append, unhide HQ]; rfl
            exact ⟨⟨k + 1, a3, c3, by omega, by simp, by rw [hl9], hide (by rw [hl9]; have h9 := unhide HS3; rw [unhide HOK, nsv_app]; exact h9), HI3, HO3, HB3⟩, by simp [intOf]; omega⟩
          | false =>
            rw [hst] at KS
            have HOK := hide (occK_miss hst)
            clear hst
            go_wp2_with fail
            refine Calls.mono (unhide KS) ?_
            rintro r w3 ⟨rfl, rfl⟩
            clear KS
            go_wp2_with fail
            exact ⟨⟨k + 1, a2, c2, by omega, by simp, by rw [unhide HOK, unhide HQ], hide (by rw [unhide HOK, unhide HQ]; exact unhide HS), HI, HO, HB⟩, by simp [intOf]; omega⟩
        · obtain rfl : n = k := by omega
          have HOL := hide (occK_L (cs := cs) (unhide H0))
          go_wp2_with fail
          go_ret2
          refine ⟨.inr ⟨cp, unhide HX, .inr ⟨unhide H0, _, rfl, ?_⟩⟩, unhide HB⟩
          have h9 := unhide HS
          have h8 := unhide HQ
          rw [← unhide HOL, unhide HN, h8]
          exact h9
end Go.Proofs.YtdnbhomjfgpcfaaDoor
