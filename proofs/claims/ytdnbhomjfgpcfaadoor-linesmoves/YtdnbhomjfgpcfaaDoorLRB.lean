/- The document's index: where lines begin, a line's bounds. -/
import Derived.Test.YtdnbhomjfgpcfaaDoorLRN
import Derived.Test.YtdnbhomjfgpcfaaDoorLB
import Derived.Maps.AppendAt
namespace Go.Proofs.YtdnbhomjfgpcfaaDoor
set_option linter.unusedVariables false
set_option linter.unusedSimpArgs false
open Go.ChangeShapes Go.WideShapes Go.ChangeAt Go.RowKit Go.Joins Go.Deep

def BegR (cs : List (List UInt8)) (w : World) (r : Ending) (w' : World) : Prop := ∃ v, r = .returned v ∧ w'.ownsRow w.heap.size 3 1 v (sts cs).length (nsv (sts cs)) ∧ Below w.heap.size w w'
set_option maxRecDepth 100000 in
set_option maxHeartbeats 4000000 in
theorem begins_ok {w : World} {B g : Nat} {vr : Value} {cs : List (List UInt8)} (h : RIx w B g vr cs) (hfew : cs.length ≤ 1099511627776) : Calls Tryd.prog 23 #[.pointer (some ⟨g, 0, none⟩)] w fun r w' => BegR cs w r w' := by
  obtain ⟨ar, cr, rfl, hcell, hncr, hcm⟩ := h.one
  have HO := hide h.r
  obtain ⟨n, hn⟩ : ∃ n, cs.length = n := ⟨_, rfl⟩
  have HN := hide hn
  rw [hn] at HO hcell hfew hncr
  have hal : Below w.heap.size w (w.alloc (.cells #[.int .i64 0] 3)) := (Below.refl _ _).alloc (Nat.le_refl _) _
  have B2 := hide hal
  have S2 : Hid ((w.alloc (.cells #[.int .i64 0] 3)).ownsRow w.heap.size 3 1 (.slice (some ⟨w.heap.size, 0, none⟩) 1 1) (sts (cs.take 0)).length (nsv (sts (cs.take 0)))) := hide (own_row (RowAt.new w 3 [.int .i64 0]) (Nat.le_refl _) (by show 1 ≤ maxLen; unfold maxLen; omega))
  have O2 := hide (own_call (unhide HO) hal)
  have hcell2 := kept hal hcell
  clear hal hn h HO hcell
  go_enter Tryd.func23, Tryd.ntmps23
  go_wp2_with fail
  go_loopw [3, 12] (fun tv i wr => ∃ (k : Nat) (a : Option Addr) (c : Nat), k ≤ n ∧ i = .int .i64 (k : Int) ∧ tv = .slice a (sts (cs.take k)).length c ∧ Hid (wr.ownsRow w.heap.size 3 1 (.slice a (sts (cs.take k)).length c) (sts (cs.take k)).length (nsv (sts (cs.take k)))) ∧ Hid (wr.ownsRow B 21 1 (.slice ar n cr) n (rnv cs)) ∧ Hid (Below w.heap.size w wr)) (fun _ i _ => ((n : Int) - intOf i).toNat)
  case atStart => exact ⟨0, _, _, by omega, by simp, rfl, S2, O2, B2⟩
  case round =>
    clear S2 O2 B2 hcell2
    obtain ⟨k, a, c, hk, rfl, rfl, HS, HO, HB⟩ := hrel
    obtain ⟨m, hm⟩ : ∃ z, (sts (cs.take k)).length = z := ⟨_, rfl⟩
    have hml : m ≤ k + 1 := by rw [← hm]; have := sts_len (cs.take k); rw [List.length_take] at this; omega
    have HM := hide hm
    rw [hm] at HS ⊢
    clear hm
    by_cases c1 : (k : Int) < (n : Int)
    · obtain ⟨x, hx⟩ : ∃ x, cs[k]? = some x := ⟨_, List.getElem?_eq_getElem (by rw [unhide HN]; omega)⟩
      obtain ⟨gr, cg, e, hcell, _, hcc, _⟩ := own_rd (unhide HO) (rnv_at hx)
      injection e with e1 _ e3
      subst e1 e3
      have HNX := hide (sts_next hx)
      obtain ⟨y, hy⟩ : ∃ y : Int, (rn x : Int) = y := ⟨_, rfl⟩
      rw [hy] at hcell
      have HY := hide hy
      have k0 : (0 : Int) ≤ (k : Int) := by omega
      clear hx hy
      by_cases h10 : y = 10
      · have h10' : (y == 10) = true := by simp [h10]
        have hr10 : rn x = 10 := by have := unhide HY; omega
        have HR10 := hide hr10
        clear h10 hr10
        have hal : Below wr.heap.size wr (wr.alloc (.cells #[.int .i64 ((k : Int) + 1)] 3)) := (Below.refl _ _).alloc (Nat.le_refl _) _
        have HB2 := hide ((unhide HB).trans (hal.mono (unhide HB).size))
        have HS2 := hide (own_call (unhide HS) hal)
        have HO2 := hide (own_call (unhide HO) hal)
        have HC2 := hide ((RowAt.new wr 3 [.int .i64 ((k : Int) + 1)]).cell 0)
        clear hal HB HS HO
        go_wp2_with (at_builtin; refine unhide ?_)
        obtain ⟨i9, hi9, hz9, hs9, hb9⟩ := info64
        refine hide ?_
        refine wpList_append_own_at _ rfl _ _ 38 rfl w.heap.size 3 i9 (.int .i64 0) 1 8 Tryd.underlying38 hi9 hz9 hs9 hb9 rfl (by decide) (.slice a m c) m (nsv (sts (cs.take k))) rfl (unhide HS2) ⟨wr.heap.size, 0, none⟩ 1 1 [.int .i64 ((k : Int) + 1)] rfl rfl (fun j u hj => by
          match j, hj with
          | 0, hj =>
            obtain rfl : (.int .i64 ((k : Int) + 1) : Value) = u := by simpa using hj
            exact unhide HC2) (fun u hu => by rw [List.mem_singleton] at hu; rw [hu]; rfl) (by unfold maxLen; omega) (by omega) (unhide HB2).size ?_
        intro v' w3 ho hg _ _
        obtain ⟨a3, c3, rfl, _⟩ := own_sl ho
        have o3 := grown_only hg
        have HB3 := hide ((unhide HB2).trans (o3.below (unhide HB2).size (fun q hq => ((unhide HS2).lt q hq).1)))
        have HO3 := hide (own_only (unhide HO2) o3 (fun q hq hp => own_ne (unhide HO2) (unhide HS2) (by decide) q hq hp))
        have HS3 := hide ho
        clear ho hg o3 HB2 HS2 HO2 HC2 i9 hi9 hz9 hs9 hb9
        go_wp2_with fail
        have hl : (sts (cs.take (k + 1))).length = m + 1 := by rw [unhide HNX, if_pos (unhide HR10), List.length_append, unhide HM]; rfl
        exact ⟨⟨k + 1, a3, c3, by omega, by simp, by rw [hl], hide (by rw [hl]; have h9 := unhide HS3; rw [unhide HNX, if_pos (unhide HR10), nsv_app]; exact h9), HO3, HB3⟩, by simp [intOf]; omega⟩
      · have h10' : (y == 10) = false := by simp [h10]
        have hr10 : ¬ rn x = 10 := by have := unhide HY; omega
        have HR10 := hide hr10
        clear h10 hr10
        go_wp2_with fail
        have hl : sts (cs.take (k + 1)) = sts (cs.take k) := by rw [unhide HNX, if_neg (unhide HR10)]; simp
        exact ⟨⟨k + 1, a, c, by omega, by simp, by rw [hl, unhide HM], hide (by rw [hl, unhide HM]; exact unhide HS), HO, HB⟩, by simp [intOf]; omega⟩
    · obtain rfl : n = k := by omega
      have HT : Hid (cs.take n = cs) := hide (List.take_of_length_le (by rw [unhide HN]; exact Nat.le_refl _))
      go_wp2_with fail
      go_ret
      have h1 := unhide HT
      have h2 := unhide HM
      rw [h1] at h2 HS
      exact ⟨_, rfl, by rw [h2]; exact unhide HS, unhide HB⟩
def bndE (cs : List (List UInt8)) (i : Int) : Value := if 0 ≤ i ∧ i < ((sts cs).length : Int) then .tuple #[.int .i64 (stN cs i.toNat : Int), .int .i64 (endL cs i.toNat : Int), .bool true] else .tuple #[.int .i64 0, .int .i64 0, .bool false]
theorem bndE_in {cs : List (List UInt8)} {k : Nat} (hk : k < (sts cs).length) : bndE cs (k : Int) = .tuple #[.int .i64 (stN cs k : Int), .int .i64 (endL cs k : Int), .bool true] := by
  unfold bndE
  rw [if_pos ⟨by omega, by omega⟩, Int.toNat_natCast]
theorem bndE_out {cs : List (List UInt8)} {i : Int} (hi : ¬ (0 ≤ i ∧ i < ((sts cs).length : Int))) : bndE cs i = .tuple #[.int .i64 0, .int .i64 0, .bool false] := if_neg hi
set_option maxRecDepth 100000 in
set_option maxHeartbeats 4000000 in
theorem bounds_ok {w : World} {B g : Nat} {vr : Value} {cs : List (List UInt8)} (h : RIx w B g vr cs) (hfew : cs.length ≤ 1099511627776) (i : Int) : Calls Tryd.prog 49 #[.pointer (some ⟨g, 0, none⟩), .int .i64 i] w fun r w' => r = .returned (bndE cs i) ∧ Below w.heap.size w w' := by
  have K := hide (begins_ok h hfew)
  have HI := hide h
  have hsl := sts_len cs
  have hsp := sts_pos cs
  clear h
  by_cases hi0 : i < 0
  · rw [bndE_out (by omega)]
    go_enter Tryd.func49, Tryd.ntmps49
    go_wp2_with fail
    refine Calls.mono (unhide K) ?_
    rintro r w1 h1
    obtain ⟨v, rfl, ho, b1⟩ := h1
    obtain ⟨as_, c_, rfl, hc1, hc2⟩ := own_sl ho
    obtain ⟨ar, cr, e1, hcell, hncr, hcm⟩ := ((unhide HI).call b1).one
    have HO := hide ho
    have B1 := hide b1
    clear ho b1 K HI e1
    obtain ⟨m, hm⟩ : ∃ z, (sts cs).length = z := ⟨_, rfl⟩
    have HM := hide hm
    rw [hm] at hc1 hsp hsl HO ⊢
    clear hm hcell
    go_wp2_with fail
    go_returns
    exact ⟨rfl, unhide B1⟩
  · obtain ⟨k, rfl⟩ : ∃ k : Nat, i = (k : Int) := ⟨i.toNat, by omega⟩
    by_cases hi1 : k < (sts cs).length
    · rw [bndE_in hi1]
      obtain ⟨f, hf⟩ : ∃ f, (sts cs)[k]? = some f := ⟨_, List.getElem?_eq_getElem hi1⟩
      have hfl := sts_le (List.mem_of_getElem? hf)
      have hsf : stN cs k = f := by unfold stN; rw [List.getD_eq_getElem?_getD, hf]; rfl
      have i0 : (0 : Int) ≤ (k : Int) := by omega
      have hnn : ¬ (k : Int) < 0 := by omega
      by_cases hl : k + 1 = (sts cs).length
      · have he : endL cs k = cs.length := by unfold endL; rw [if_neg (by omega)]
        rw [hsf, he]
        obtain ⟨n, hn⟩ : ∃ z, cs.length = z := ⟨_, rfl⟩
        rw [hn]
        go_enter Tryd.func49, Tryd.ntmps49
        go_wp2_with fail
        refine Calls.mono (unhide K) ?_
        rintro r w1 h1
        obtain ⟨v, rfl, ho, b1⟩ := h1
        obtain ⟨as_, c_, rfl, hc1, hc2⟩ := own_sl ho
        obtain ⟨ar, cr, e1, hcell, hncr, hcm⟩ := ((unhide HI).call b1).one
        have HO := hide ho
        have B1 := hide b1
        clear ho b1 K HI e1
        obtain ⟨m, hm⟩ : ∃ z, (sts cs).length = z := ⟨_, rfl⟩
        have HM := hide hm
        obtain ⟨gs, c2, e3, hc, _, hcc, _⟩ := own_rd (unhide HO) (u := .int .i64 (f : Int)) (i := k) (by simp [nsv, hf])
        injection e3 with e3 _ e4
        subst e3 e4
        rw [hn] at hcell hncr hfew hsl hfl
        rw [hm] at hc1 hsp hsl HO hi1 hl hcc ⊢
        have hlt : ¬ (m : Int) ≤ (k : Int) := by omega
        have hltI : (k : Int) < (m : Int) := by omega
        have heq : ((k : Int) == (m : Int) - 1) = true := by simp; omega
        have hmI : (m : Int) ≤ 1099511627777 := by omega
        have hmI1 : (1 : Int) ≤ (m : Int) := by omega
        clear hm hf hn HO hl hsf he
        go_wp2_with fail
        go_quiet (fail)
        have HB := hide ((unhide B1).trans ((Go.Joins.below_draws w1.heap.size w1 nq).mono (unhide B1).size))
        go_wp2_with fail
        go_returns
        exact ⟨rfl, unhide HB⟩
      · have h1 : k + 1 < (sts cs).length := by omega
        obtain ⟨e, he0⟩ : ∃ e, (sts cs)[k + 1]? = some e := ⟨_, List.getElem?_eq_getElem h1⟩
        have hn1 : 1 ≤ e ∧ e ≤ 1099511627776 := by
          have hm : e ∈ stF 0 cs := by simp only [sts, List.getElem?_cons_succ] at he0; exact List.mem_of_getElem? he0
          have := stF_ge cs 0 e hm; omega
        have he : (endL cs k : Int) = (e : Int) - 1 := by unfold endL; rw [if_pos h1, List.getD_eq_getElem?_getD, he0]; simp; omega
        rw [hsf, he]
        go_enter Tryd.func49, Tryd.ntmps49
        go_wp2_with fail
        refine Calls.mono (unhide K) ?_
        rintro r w1 h1
        obtain ⟨v, rfl, ho, b1⟩ := h1
        obtain ⟨as_, c_, rfl, hc1, hc2⟩ := own_sl ho
        obtain ⟨ar, cr, e1, hcell, hncr, hcm⟩ := ((unhide HI).call b1).one
        have HO := hide ho
        have B1 := hide b1
        clear ho b1 K HI e1
        obtain ⟨m, hm⟩ : ∃ z, (sts cs).length = z := ⟨_, rfl⟩
        have HM := hide hm
        obtain ⟨gs, c2, e3, hc, _, hcc, _⟩ := own_rd (unhide HO) (u := .int .i64 (f : Int)) (i := k) (by simp [nsv, hf])
        injection e3 with e3 _ e4
        subst e3 e4
        obtain ⟨gs2, c3, e5, hd, _, _, _⟩ := own_rd (unhide HO) (u := .int .i64 (e : Int)) (i := k + 1) (by simp [nsv, he0])
        injection e5 with e5 _ e6
        injection e5 with e5
        injection e5 with e5 _ _
        subst e5 e6
        rw [hm] at hc1 hsp hsl HO hi1 hl hcc h1 ⊢
        have hlt : ¬ (m : Int) ≤ (k : Int) := by omega
        have hltI : (k : Int) < (m : Int) := by omega
        have hltI1 : (k : Int) + 1 < (m : Int) := by omega
        have i1 : (0 : Int) ≤ (k : Int) + 1 := by omega
        have heq : ((k : Int) == (m : Int) - 1) = false := by simp; omega
        have hmI : (m : Int) ≤ 1099511627777 := by omega
        have hmI1 : (1 : Int) ≤ (m : Int) := by omega
        clear hm hf he0 HO hl hsf he hcell
        go_wp2_with fail
        go_quiet (fail)
        have HB := hide ((unhide B1).trans ((Go.Joins.below_draws w1.heap.size w1 nq).mono (unhide B1).size))
        go_wp2_with fail
        go_returns
        exact ⟨rfl, unhide HB⟩
    · rw [bndE_out (by omega)]
      go_enter Tryd.func49, Tryd.ntmps49
      go_wp2_with fail
      refine Calls.mono (unhide K) ?_
      rintro r w1 h1
      obtain ⟨v, rfl, ho, b1⟩ := h1
      obtain ⟨as_, c_, rfl, hc1, hc2⟩ := own_sl ho
      obtain ⟨ar, cr, e1, hcell, hncr, hcm⟩ := ((unhide HI).call b1).one
      have HO := hide ho
      have B1 := hide b1
      clear ho b1 K HI e1
      obtain ⟨m, hm⟩ : ∃ z, (sts cs).length = z := ⟨_, rfl⟩
      have HM := hide hm
      rw [hm] at hc1 hsp hsl HO hi1 ⊢
      have hlt : (m : Int) ≤ (k : Int) := by omega
      have hnn : ¬ (k : Int) < 0 := by omega
      clear hm hcell
      go_wp2_with fail
      go_returns
      exact ⟨rfl, unhide B1⟩
end Go.Proofs.YtdnbhomjfgpcfaaDoor
