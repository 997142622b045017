/- All places of a pattern; Find. -/
import Derived.Test.YtdnbhomjfgpcfaaDoorLBo
namespace Go.Proofs.YtdnbhomjfgpcfaaDoor
set_option linter.unusedVariables false
set_option linter.unusedSimpArgs false
open Go.ChangeShapes Go.WideShapes Go.ChangeAt Go.RowKit Go.Joins Go.Deep

/-- where a pattern stands that ends within the first so many -/
def occ (P T : List Int) : Nat → List Nat
  | 0 => []
  | i + 1 => occ P T i ++ (if P.isSuffixOf (T.take (i + 1)) = true then [i + 1 - P.length] else [])
theorem occ_len (P T : List Int) : ∀ i, (occ P T i).length ≤ i
  | 0 => by simp [occ]
  | i + 1 => by
    have := occ_len P T i
    rw [occ, List.length_append]
    split <;> simp <;> omega
theorem Mq.start {P : List Int} (h : 0 < P.length) : Mq P [] 0 := ⟨h, by simp, fun k hk hks => by
    have := hks.length_le
    rw [List.length_take, List.length_nil] at this
    omega⟩
theorem Mq.hit {P X : List Int} {b : Nat} (hs : P <:+ X) (hb : Bd P P.length b) : Mq P X b := by
  refine ⟨hb.1, ?_, fun k hk hks => ?_⟩
  · have h := hb.2.1
    rw [List.take_length] at h
    exact h.trans hs
  · refine hb.2.2 k hk ?_
    rw [List.take_length]
    refine List.suffix_of_suffix_length_le hks hs ?_
    rw [List.length_take]
    omega
def PlR (P T : List Int) (w : World) (r : Ending) (w' : World) : Prop := ∃ v, r = .returned v ∧ w'.ownsRow w.heap.size 3 1 v (occ P T T.length).length (nsv (occ P T T.length)) ∧ Below w.heap.size w w'
set_option maxRecDepth 100000 in
set_option maxHeartbeats 4000000 in
theorem places_any (B B' m t : Nat) (vp vr : Value) (P T : List Int) (w : World) (hr : w.ownsRow B' 21 1 vr t (riv T)) (hp : w.ownsRow B 21 1 vp m (riv P)) (h0 : 0 < m) (hm : m ≤ 1099511627776) (ht : t ≤ 1099511627776) :
    Calls Tryd.prog 54 #[vr, vp] w fun r w' => PlR P T w r w' := by
  have KB := hide (borders_any B m vp P w hp h0 hm)
  have hPl : P.length = m := by have := hp.1; simpa [riv] using this
  have hTl : T.length = t := by have := hr.1; simpa [riv] using this
  have HPL := hide hPl
  have HTL := hide hTl
  obtain ⟨ap, cp, rfl, _, _⟩ := own_sl hp
  obtain ⟨ar, cr, rfl, hrc, _⟩ := own_sl hr
  have HP := hide hp
  have HR := hide hr
  have htI : (t : Int) ≤ 1099511627776 := by omega
  have hmI : (m : Int) ≤ 1099511627776 := by omega
  clear hp hr hPl hTl
  go_enter Tryd.func54, Tryd.ntmps54
  go_wp2_with fail
  refine Calls.mono (unhide KB) ?_
  rintro r w1 ⟨vb, bk, rfl, hb, hbd, b1⟩
  obtain ⟨ab, cb, rfl, _, _⟩ := own_sl hb
  have B1 := hide b1
  have HB := hide (own_base hb (Nat.le_refl _))
  have HBD := hide hbd
  have HP1 := hide (own_call (unhide HP) b1)
  have HR1 := hide (own_call (unhide HR) b1)
  have HS : Hid (Mq P (T.take 0) 0) := hide (Mq.start (by rw [unhide HPL]; exact h0))
  have HO : Hid (w1.ownsRow w.heap.size 3 1 (.slice none 0 0) (occ P T 0).length (nsv (occ P T 0))) := hide ⟨rfl, .inl ⟨rfl, rfl⟩⟩
  clear hb hbd b1 KB HP HR
  go_wp2_with fail
  go_loopw [6, 7, 14] (fun lv nv i wr => ∃ (k n : Nat) (la : Option Addr) (lc : Nat), k ≤ t ∧ i = .int .i64 (k : Int) ∧ nv = .int .i64 (n : Int) ∧ lv = .slice la (occ P T k).length lc ∧ Hid (Mq P (T.take k) n) ∧ Hid (wr.ownsRow w.heap.size 3 1 (.slice la (occ P T k).length lc) (occ P T k).length (nsv (occ P T k))) ∧ Hid (wr.ownsRow w.heap.size 3 1 (.slice ab (m + 1) cb) (m + 1) (nsv bk) ∧ wr.ownsRow B 21 1 (.slice ap m cp) m (riv P) ∧ wr.ownsRow B' 21 1 (.slice ar t cr) t (riv T) ∧ (∀ q, (Value.slice la (occ P T k).length lc).ownBlock = some q → (Value.slice ab (m + 1) cb).ownBlock ≠ some q)) ∧ Hid (Below w.heap.size w wr)) (fun _ _ i _ => ((t : Int) - intOf i).toNat)
  case atStart => exact ⟨0, 0, none, 0, by omega, by simp, rfl, rfl, HS, HO, hide ⟨unhide HB, unhide HP1, unhide HR1, fun q hq => by cases hq⟩, B1⟩
  case round =>
    clear HS HO HB HP1 HR1 B1
    obtain ⟨k, n, la, lc, hk, rfl, rfl, rfl, HM, HO, HX, HB⟩ := hrel
    obtain ⟨ol, hol⟩ : ∃ z, (occ P T k).length = z := ⟨_, rfl⟩
    have holk : ol ≤ k := by rw [← hol]; exact occ_len P T k
    rw [hol] at HO HX ⊢
    have HOL := hide hol
    clear hol
    by_cases c1 : (k : Int) < (t : Int)
    · obtain ⟨x, hx⟩ : ∃ x, T[k]? = some x := ⟨_, List.getElem?_eq_getElem (by rw [unhide HTL]; omega)⟩
      obtain ⟨hxb, hxp, hxr, hsep⟩ := unhide HX
      obtain ⟨gr, c2, e1, hc, _, _, _⟩ := own_rd hxr (i := k) (u := .int .i32 x) (by simp [riv, hx])
      injection e1 with e1 _ e2
      subst e1 e2
      have hM := unhide HM
      have hnm : n < m := by rw [← unhide HPL]; exact hM.1
      have KG := hide (grow_any B w.heap.size m _ _ P bk n x wr hxp hxb hnm hm (fun q h1 h2 => (unhide HBD q h1 (by omega)).1))
      have hg := hM.grow (r := x) (fun q h1 h2 => unhide HBD q h1 (by omega))
      have hxs : T.take (k + 1) = T.take k ++ [x] := by rw [take_next (by rw [unhide HTL]; omega), List.getD_eq_getElem?_getD, hx]; rfl
      rw [← hxs] at hg
      obtain ⟨G, hG⟩ : ∃ G, gw P bk x (n + 1) n = G := ⟨_, rfl⟩
      rw [hG] at KG hg
      have k0 : (0 : Int) ≤ (k : Int) := by omega
      obtain ⟨y, hy⟩ : ∃ y, bk[m]? = some y := ⟨_, List.getElem?_eq_getElem (by have := hxb.1; simp [nsv] at this; omega)⟩
      by_cases hh : G = m
      · subst hh
        have hfull : P <:+ T.take (k + 1) := by have := hg.2.1; rw [← unhide HPL, List.take_length] at this; exact this
        have hyd : bk.getD G 0 = y := by rw [List.getD_eq_getElem?_getD, hy]; rfl
        have hbdm := unhide HBD G h0 (Nat.le_refl _)
        rw [hyd] at hbdm
        have HM2 := hide (Mq.hit hfull (by rw [unhide HPL]; exact hbdm))
        have hlen := hfull.length_le
        rw [unhide HPL, List.length_take] at hlen
        have hoc : occ P T (k + 1) = occ P T k ++ [k + 1 - G] := by rw [occ, if_pos (List.isSuffixOf_iff_suffix.2 hfull), unhide HPL]
        have HOC := hide hoc
        have hval : (k : Int) + 1 - (G : Int) = ((k + 1 - G : Nat) : Int) := by omega
        have hal : Below wr.heap.size wr (wr.alloc (.cells #[.int .i64 ((k : Int) + 1 - (G : Int))] 3)) := (Below.refl _ _).alloc (Nat.le_refl _) _
        have HB2 := hide ((unhide HB).trans (hal.mono (unhide HB).size))
        have HO2 := hide (own_call (unhide HO) hal)
        have HX2 := hide (And.intro (own_call hxb hal) (And.intro (own_call hxp hal) (And.intro (own_call hxr hal) hsep)))
        have HC2 := hide ((RowAt.new wr 3 [.int .i64 ((k : Int) + 1 - (G : Int))]).cell 0)
        have HVAL := hide hval
        have HY := hide hy
        have hk1 : (k : Int) + 1 ≤ 1099511627777 := by omega
        clear hx hxb hxp hxr hsep hM hg hxs hG hfull hyd hbdm hlen hoc hval hal hy HM HO HX HB
        go_wp2_with fail
        refine Calls.mono (unhide KG) ?_
        rintro r w3 ⟨rfl, rfl⟩
        go_wp2_with (at_builtin; refine unhide ?_)
        obtain ⟨i9, hi9, hz9, hs9, hb9⟩ := info64
        refine hide ?_
        refine wpList_append_own_at _ rfl _ _ 38 rfl w.heap.size 3 i9 (.int .i64 0) 1 8 Tryd.underlying38 hi9 hz9 hs9 hb9 rfl (by decide) (.slice la ol lc) ol (nsv (occ P T k)) rfl (unhide HO2) ⟨wr.heap.size, 0, none⟩ 1 1 [.int .i64 ((k : Int) + 1 - (G : Int))] rfl rfl (fun j u hj => by
          match j, hj with
          | 0, hj =>
            obtain rfl : (.int .i64 ((k : Int) + 1 - (G : Int)) : Value) = u := by simpa using hj
            exact unhide HC2) (fun u hu => by rw [List.mem_singleton] at hu; rw [hu]; rfl) (by unfold maxLen; omega) (by omega) (unhide HB2).size ?_
        intro v' w4 ho hgr _ hat
        obtain ⟨a4, c4, rfl, _⟩ := own_sl ho
        have o4 := grown_only hgr
        obtain ⟨h2b, h2p, h2r, h2s⟩ := unhide HX2
        have h4b := own_only h2b o4 (fun q hq hp => h2s q hp hq)
        have h4p := own_only h2p o4 (fun q hq hp => own_ne h2p (unhide HO2) (by decide) q hq hp)
        have h4r := own_only h2r o4 (fun q hq hp => own_ne h2r (unhide HO2) (by decide) q hq hp)
        have HB4 := hide ((unhide HB2).trans (o4.below (unhide HB2).size (fun q hq => ((unhide HO2).lt q hq).1)))
        have hl : (occ P T (k + 1)).length = ol + 1 := by rw [unhide HOC, List.length_append, unhide HOL]; rfl
        have HL := hide hl
        have HX4 : Hid (w4.ownsRow w.heap.size 3 1 (.slice ab (G + 1) cb) (G + 1) (nsv bk) ∧ w4.ownsRow B 21 1 (.slice ap G cp) G (riv P) ∧ w4.ownsRow B' 21 1 (.slice (some ⟨gr, 0, none⟩) t cr) t (riv T) ∧ (∀ q, (Value.slice a4 (ol + 1) c4).ownBlock = some q → (Value.slice ab (G + 1) cb).ownBlock ≠ some q)) := hide ⟨h4b, h4p, h4r, fun q hq hq2 => by
          rcases hat with h9 | h9
          · rw [h9] at hq
            exact h2s q hq hq2
          · rw [h9] at hq
            injection hq with hq
            have := (h2b.lt q hq2).2
            omega⟩
        have HO4 : Hid (w4.ownsRow w.heap.size 3 1 (.slice a4 (ol + 1) c4) (ol + 1) (nsv (occ P T (k + 1)))) := hide (by rw [unhide HOC, nsv_app]; have h9 := ho; rw [unhide HVAL] at h9; exact h9)
        obtain ⟨gb, c5, e5, hcb, _, _, _⟩ := own_rd h4b (i := G) (u := .int .i64 (y : Int)) (by simp [nsv, unhide HY])
        injection e5 with e5 _ e6
        subst e5 e6
        have g0 : (0 : Int) ≤ (G : Int) := by omega
        have g1 : (G : Int) < (G : Int) + 1 := by omega
        clear ho hgr hat o4 h2b h2p h2r h2s h4b h4p h4r hl HO2 HX2 HB2 HC2 i9 hi9 hz9 hs9 hb9
        go_wp2_with fail
        exact ⟨⟨k + 1, y, a4, c4, by omega, by simp, rfl, by rw [unhide HL], HM2, by rw [unhide HL]; exact HO4, by rw [unhide HL]; exact HX4, HB4⟩, by simp [intOf]; omega⟩
      · have hno : ¬ P <:+ T.take (k + 1) := fun hf => by
          have := hg.2.2 m (by rw [unhide HPL]; exact Nat.le_refl _) (by rw [← unhide HPL, List.take_length]; exact hf)
          omega
        have hoc : occ P T (k + 1) = occ P T k := by
          rw [occ, if_neg (fun h => hno (List.isSuffixOf_iff_suffix.1 h)), List.append_nil]
        have HOC := hide hoc
        have HM2 : Hid (Mq P (T.take (k + 1)) G) := hide ⟨by rw [unhide HPL]; omega, hg.2.1, fun q hq hqs => hg.2.2 q (by omega) hqs⟩
        have hne : ((G : Int) == (m : Int)) = false := by simp; omega
        clear hx hxb hxp hxr hsep hM hg hxs hG hno hoc hy HM hh
        go_wp2_with fail
        refine Calls.mono (unhide KG) ?_
        rintro r w3 ⟨rfl, rfl⟩
        go_wp2_with fail
        exact ⟨⟨k + 1, G, la, lc, by omega, by simp, rfl, by rw [unhide HOC, unhide HOL], HM2, by rw [unhide HOC, unhide HOL]; exact HO, by rw [unhide HOC, unhide HOL]; exact HX, HB⟩, by simp [intOf]; omega⟩
    · obtain rfl : t = k := by omega
      have HE : Hid (PlR P T w (.returned (.slice la ol lc)) wr) := hide ⟨_, rfl, by rw [unhide HTL, unhide HOL]; exact unhide HO, unhide HB⟩
      clear HM HO HX HB
      go_wp2_with fail
      go_ret
      exact unhide HE
end Go.Proofs.YtdnbhomjfgpcfaaDoor
