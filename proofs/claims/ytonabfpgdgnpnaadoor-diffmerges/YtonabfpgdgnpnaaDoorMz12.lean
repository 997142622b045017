/- Parts of the walk: DDi, DMe, DMt, Chr, Wid1. -/
import Derived.Test.YtonabfpgdgnpnaaDoorMz10
import Derived.Test.YtonabfpgdgnpnaaDoorMz08
import Derived.Test.YtonabfpgdgnpnaaDoorMz11
import Derived.Test.YtonabfpgdgnpnaaDoorMz05
import Derived.Test.YtonabfpgdgnpnaaDoorMz02
import Derived.Lib.OthersKept
import Derived.Lib.MapLaws
namespace Go.Proofs.YtonabfpgdgnpnaaDoor
set_option linter.unusedVariables false
set_option linter.unusedSimpArgs false
open Go.ChangeShapes Go.WideShapes Go.ChangeAt Go.RowKit Go.Joins Go.Deep

/-- what the document's walk has made so far -/
structure RW (w wr : World) (Ba Bb Bv : Nat) (va vb vt ov : Value) (x y : List CP) (vs : List Value) (X : List (List Nat)) (i j : Nat) (L : List Pt) : Prop where
  a : wr.ownsRow Ba 21 1 va x.length (rnv x)
  b : wr.ownsRow Bb 21 1 vb y.length (rnv y)
  rr : RR wr Bv vt vs X
  out : OwnP wr w.heap.size ov L
  eq : atomsL (L.filter fitsB) ++ leadA (x.drop i) (y.drop j) = leadA x y
  len : L.length ≤ i + j
  txt : sumT L ≤ 4 * j
  bel : Below w.heap.size w wr
theorem RW.step {w wr w2 w3 : World} {Ba Bb Bv : Nat} {va vb vt ov v' : Value} {x y : List CP} {vs : List Value} {X : List (List Nat)} {i j i' j' : Nat} {L : List Pt} {p : Pt} (h : RW w wr Ba Bb Bv va vb vt ov x y vs X i j L) (hal : Below wr.heap.size wr w2) (hg : w2.grownBy w3 ov.ownBlock) (ho : w3.ownsRow w.heap.size 39 3 v' (L.length + 1) (ptc L ++ ptc [p]))
    (he : atomsL ([p].filter fitsB) ++ leadA (x.drop i') (y.drop j') = leadA (x.drop i) (y.drop j)) (hl : i + j + 1 ≤ i' + j') (ht : 4 * j + p.text.size ≤ 4 * j') : RW w w3 Ba Bb Bv va vb vt v' x y vs X i' j' (L ++ [p]) := by
  have o3 := grown_only hg
  have hO : w2.ownsRow w.heap.size 39 3 ov L.length (ptc L) := own_call h.out hal
  have ha := own_call h.a hal
  have hb := own_call h.b hal
  have hr := h.rr.call hal
  have hB := h.bel.trans (hal.mono h.bel.size)
  refine ⟨own_only ha o3 (fun q hq hp => own_ne ha hO (by decide) q hq hp), own_only hb o3 (fun q hq hp => own_ne hb hO (by decide) q hq hp), ⟨own_only hr.own o3 (fun q hq hp => own_ne hr.own hO (by decide) q hq hp), fun k u z h1 h2 => ?_⟩, OwnP.app (m := [p]) ho, ?_, ?_, ?_, hB.trans (o3.below hB.size (fun q hq => (hO.lt q hq).1))⟩
  · have h3 := hr.each k u z h1 h2
    exact own_only h3 o3 (fun q hq hp => own_ne h3 hO (by decide) q hq hp)
  · rw [List.filter_append, atomsL_append, List.append_assoc, he, h.eq]
  · rw [List.length_append]
    have := h.len
    simp
    omega
  · rw [sumT_app]
    have := h.txt
    omega
set_option maxRecDepth 100000 in
set_option maxHeartbeats 4000000 in
theorem rdiff_any (a b : ByteArray) (w : World) (hsa : a.size ≤ 1099511627776) (hsb : b.size ≤ 1099511627776) : Calls Tryd.prog 14 #[.string a, .string b] w fun r w' => DiffR a b w r w' := by
  have bP : Below w.heap.size w (w.alloc (.cells #[.string a, .string b] 9)) := (Below.refl _ _).alloc (Nat.le_refl _) _
  have KR := hide (rall_any w.heap.size (.slice (some ⟨w.heap.size, 0, none⟩) 2 2) [a, b] (w.alloc (.cells #[.string a, .string b] 9)) (own_row (RowAt.new w 9 [.string a, .string b]) (Nat.le_refl _) (by show 2 ≤ maxLen; unfold maxLen; omega)) (by simp) (by simp only [List.mem_cons, List.not_mem_nil, or_false]; rintro s (rfl | rfl) <;> assumption))
  have B1 := hide bP
  obtain ⟨w1, hw1⟩ : ∃ z, w.alloc (.cells #[.string a, .string b] 9) = z := ⟨_, rfl⟩
  have HW1 := hide hw1
  rw [hw1] at KR B1
  clear bP hw1
  obtain ⟨e, he⟩ : ∃ z, firstE [a, b] = z := ⟨_, rfl⟩
  have HE := hide he
  rw [he] at KR
  clear he
  go_enter Tryd.func14, Tryd.ntmps14
  go_wp2_with fail
  try rw [unhide HW1]
  clear HW1
  refine Calls.mono (unhide KR) ?_
  rintro r w2 ⟨rfl, b2⟩
  have B2 := hide ((unhide B1).trans (b2.mono (unhide B1).size))
  clear b2 KR
  by_cases hf : e = 0
  rotate_left
  · have he0 : (e != 0) = true := by simp [hf]
    have HF := hide hf
    clear hf
    go_wp2_with fail
    go_ret2
    exact ⟨.inl ⟨by rw [unhide HE]; exact unhide HF, by rw [unhide HE]; rfl⟩, unhide B2⟩
  subst hf
  obtain ⟨x, hx, hxl⟩ := chk_ok (first_ok (unhide HE) a (by simp))
  obtain ⟨y, hy, hyl⟩ := chk_ok (first_ok (unhide HE) b (by simp))
  have HX := hide (And.intro hx (And.intro hy (And.intro hxl hyl)))
  have K2 := hide (rchars_any a w2 hsa)
  clear hx hy hxl hyl
  go_wp2_with fail
  refine Calls.mono (unhide K2) ?_
  rintro r w3 h3
  obtain ⟨va, n1, l1, rfl, ho1, hl1, _, b3⟩ := h3
  obtain ⟨e1, e2⟩ := hl1 x (unhide HX).1
  subst e1 e2
  have HO1 := hide ho1
  have B3 := hide ((unhide B2).trans (b3.mono (unhide B2).size))
  have K3 := hide (rchars_any b w3 hsb)
  clear ho1 hl1 b3 K2
  go_wp2_with fail
  refine Calls.mono (unhide K3) ?_
  rintro r w4 h4
  obtain ⟨vb, n2, l2, rfl, ho2, hl2, _, b4⟩ := h4
  obtain ⟨e1, e2⟩ := hl2 y (unhide HX).2.1
  subst e1 e2
  have B4 := hide ((unhide B3).trans (b4.mono (unhide B3).size))
  have HO2 := hide ho2
  have HO1 := hide (own_call (unhide HO1) b4)
  have K4 := hide (rrows_any _ _ va vb x y w4 (unhide HX).1.cps (unhide HX).2.1.cps (unhide HO1) ho2 (unhide HX).2.2.1 (unhide HX).2.2.2)
  clear ho2 hl2 b4 K3
  go_wp2_with fail
  refine Calls.mono (unhide K4) ?_
  rintro r w5 h5
  obtain ⟨v, vs, X, rfl, hRR, hTX, b5⟩ := h5
  have B5 := hide ((unhide B4).trans (b5.mono (unhide B4).size))
  have HL0 := hide (RW.mk (ov := .slice none 0 0) (i := 0) (j := 0) (L := []) (own_call (unhide HO1) b5) (own_call (unhide HO2) b5) hRR (OwnP.nil _ _) (by simp [atomsL]) (by simp) (by simp [sumT]) (unhide B5))
  have HTX := hide hTX
  obtain ⟨aa, ca, rfl, hca1, hca2⟩ := own_sl (unhide HO1)
  obtain ⟨ab, cb, rfl, hcb1, hcb2⟩ := own_sl (unhide HO2)
  obtain ⟨n, hn⟩ : ∃ z, x.length = z := ⟨_, rfl⟩
  obtain ⟨m, hm⟩ : ∃ z, y.length = z := ⟨_, rfl⟩
  have HN := hide hn
  have HM := hide hm
  have hnb : n ≤ 1024 := by rw [← hn]; exact (unhide HX).2.2.1
  have hmb : m ≤ 1024 := by rw [← hm]; exact (unhide HX).2.2.2
  obtain ⟨N2, hN2⟩ : ∃ z, n + m = z := ⟨_, rfl⟩
  have hN2I : (n : Int) + (m : Int) = (N2 : Int) := by omega
  rw [hn] at hca1 HL0 ⊢
  rw [hm] at hcb1 HL0 ⊢
  clear hRR hTX b5 HO1 HO2 hn hm K4
  generalize hBa : w2.heap.size = Ba at HL0
  generalize hBb : w3.heap.size = Bb at HL0
  generalize hBv : w4.heap.size = Bv at HL0
  clear hBa hBb hBv
  go_wp2_with fail
  go_loopw [10, 11, 12, 32] (fun ov iv jv sv wr => ∃ (s i j : Nat) (a2 : Option Addr) (c2 : Nat) (L : List Pt), s ≤ N2 ∧ i ≤ n ∧ j ≤ m ∧ sv = .int .i64 (s : Int) ∧ iv = .int .i64 (i : Int) ∧ jv = .int .i64 (j : Int) ∧ (s ≤ i + j ∨ (i = n ∧ j = m)) ∧ ov = .slice a2 L.length c2 ∧ Hid (RW w wr Ba Bb Bv (.slice aa n ca) (.slice ab m cb) v (.slice a2 L.length c2) x y vs X i j L)) (fun _ _ _ sv _ => ((N2 : Int) - intOf sv).toNat)
  case atStart => exact ⟨0, 0, 0, none, 0, [], by omega, by omega, by omega, by simp, by simp, by simp, by omega, rfl, HL0⟩
  case round =>
    clear HL0
    obtain ⟨s, i, j, a2, c2, L, hs2, hi, hj, rfl, rfl, rfl, hsij, rfl, HL⟩ := hrel
    have HSIJ := hide hsij
    clear hsij
    have hll := (unhide HL).len
    obtain ⟨q, hq⟩ : ∃ z, L.length = z := ⟨_, rfl⟩
    have HLQ := hide hq
    rw [hq] at HL hll ⊢
    clear hq
    have i0 : (0 : Int) ≤ (i : Int) := by omega
    have j0 : (0 : Int) ≤ (j : Int) := by omega
    have HBw := hide (Below.refl wr.heap.size wr)
    by_cases c1 : (s : Int) < (N2 : Int)
    · by_cases ci : i < n
      · obtain ⟨c, hc⟩ : ∃ z, x[i]? = some z := ⟨_, List.getElem?_eq_getElem (by rw [unhide HN]; omega)⟩
        have hin : (i : Int) < (n : Int) := by omega
        have hne1 : decide (i = n) = false := decide_eq_false (by omega)
        have hne2 : ¬ i = n := by omega
        by_cases cj : j < m
        · obtain ⟨d, hd⟩ : ∃ z, y[j]? = some z := ⟨_, List.getElem?_eq_getElem (by rw [unhide HM]; omega)⟩
          have hjm : (j : Int) < (m : Int) := by omega
          have hje : ¬ j = m := by omega
          have hje2 : ((j : Int) == (m : Int)) = false := by simp; omega
          have hje3 : decide ((j : Int) = (m : Int)) = false := decide_eq_false (by omega)
          have hje4 : decide (j = m) = false := decide_eq_false hje
          have hje5 : (j == m) = false := by simp [hje]
          obtain ⟨ga, ca2, e, hca, _⟩ := own_rd (unhide HL).a (rnv_at hc)
          injection e with e1 e2 e3
          clear e2
          subst e1 e3
          obtain ⟨gb, cb2, e, hcb, _⟩ := own_rd (unhide HL).b (rnv_at hd)
          injection e with e1 e2 e3
          clear e2
          subst e1 e3
          by_cases hcd : c = d
          · subst hcd
            have HK := hide (lead_keep hc hd)
            obtain ⟨z, hz⟩ : ∃ z : Int, (rn c : Int) = z := ⟨_, rfl⟩
            rw [hz] at hca hcb
            clear hc hd hz
            go_wp2_with fail
            go_quiet (fail)
            have BD := hide (Go.Joins.below_draws wr.heap.size wr nq)
            have HBw := hide ((unhide HBw).trans ((unhide BD).mono (unhide HBw).size))
            have hca := kept (unhide BD) hca
            have hcb := kept (unhide BD) hcb
            obtain ⟨ws, hws⟩ : ∃ z, wr.drewN nq = z := ⟨_, rfl⟩
            rw [hws] at HBw hca hcb ⊢
            clear hws BD
            have hal : Below ws.heap.size ws (ws.alloc (.cells #[.int .i64 1, .int .i64 1, .string ⟨#[]⟩] 39)) := (Below.refl _ _).alloc (Nat.le_refl _) _
            have HAL := hide ((unhide HBw).trans (hal.mono (unhide HBw).size))
            have HS2 : Hid ((ws.alloc (.cells #[.int .i64 1, .int .i64 1, .string ⟨#[]⟩] 39)).ownsRow w.heap.size 39 3 (.slice a2 q c2) q (ptc L)) := hide (by have h9 := own_call (unhide HL).out (unhide HAL); rw [unhide HLQ] at h9; exact h9)
            have HB2 := hide ((unhide HL).bel.trans ((unhide HAL).mono (unhide HL).bel.size))
            have HC2 := hide (RowAt.new ws 39 [.int .i64 1, .int .i64 1, .string ⟨#[]⟩])
            clear hal
            go_wp2_with (at_builtin; refine unhide ?_)
            obtain ⟨i9, hi9, hz9, hs9, hb9⟩ := info_parts infoPt
            refine hide ?_
            refine wpList_append_own_at _ rfl _ _ 24 rfl w.heap.size 39 i9 (.agg #[.int .i64 0, .int .i64 0, .string ⟨#[]⟩]) 3 32 Tryd.underlying24 hi9 hz9 hs9 hb9 rfl (by decide) (.slice a2 q c2) q (ptc L) rfl (unhide HS2) ⟨ws.heap.size, 0, none⟩ 1 1 [.int .i64 1, .int .i64 1, .string ⟨#[]⟩] rfl rfl (fun j u hj => by
              have h9 := (unhide HC2).cell j
              rw [hj] at h9
              rw [Addr.add_lit, Nat.zero_add]
              exact h9) (fun u hu => by
              simp only [List.mem_cons, List.not_mem_nil, or_false] at hu
              rcases hu with rfl | rfl | rfl <;> rfl) (by unfold maxLen; omega) (by omega) (unhide HB2).size ?_
            intro v' w3 ho hg _ _
            obtain ⟨a4, c4, rfl, _, _⟩ := own_sl3 ho
            have HL2 := hide ((unhide HL).step (i' := i + 1) (j' := j + 1) (p := ⟨1, 1, ⟨#[]⟩⟩) (unhide HAL) hg (by rw [unhide HLQ]; exact ho) (by rw [one_k 1 (by omega), unhide HK]; rfl) (by omega) (by show 4 * j + 0 ≤ 4 * (j + 1); omega))
            clear ho hg HL HS2 HB2 HC2 HAL HBw i9 hi9 hz9 hs9 hb9
            go_wp2_with fail
            have hl9 : (L ++ [(⟨1, 1, ⟨#[]⟩⟩ : Pt)]).length = q + 1 := by rw [List.length_append, unhide HLQ]; rfl
            exact ⟨⟨s + 1, i + 1, j + 1, a4, c4, _, by omega, by omega, by omega, by simp, by first | (simp; done) | (simp; omega), by first | (simp; done) | (simp; omega), by have h9 := unhide HSIJ; omega, by rw [hl9], by rw [hl9]; exact HL2⟩, by simp [intOf]; omega⟩
          · have hsm : sameB x y i j = false := by unfold sameB; rw [hc, hd]; simp [hcd]
            have hzz : ((rn c : Int) == (rn d : Int)) = false := by rw [rn_eq ((unhide HX).1.cps _ (List.mem_of_getElem? hc)) ((unhide HX).2.1.cps _ (List.mem_of_getElem? hd))]; simp [hcd]
            obtain ⟨i1, hi1⟩ : ∃ z, i + 1 = z := ⟨_, rfl⟩
            obtain ⟨j1, hj1⟩ : ∃ z, j + 1 = z := ⟨_, rfl⟩
            have hi1I : (i : Int) + 1 = (i1 : Int) := by omega
            have hj1I : (j : Int) + 1 = (j1 : Int) := by omega
            have i10 : (0 : Int) ≤ (i1 : Int) := by omega
            have j10 : (0 : Int) ≤ (j1 : Int) := by omega
            have hwi1 : IntKind.i64.wrap (i1 : Int) = (i1 : Int) := by rw [IntKind.wrap_i64] <;> omega
            have hwj1 : IntKind.i64.wrap (j1 : Int) = (j1 : Int) := by rw [IntKind.wrap_i64] <;> omega
            have hX1 := (unhide HTX).2 i1 (by rw [unhide HN]; omega)
            have hX0 := (unhide HTX).2 i (by rw [unhide HN]; omega)
            obtain ⟨u1, hu1, hul1⟩ := (unhide HL).rr.at_ hX1
            obtain ⟨u0, hu0, hul0⟩ := (unhide HL).rr.at_ hX0
            rw [lrow_len, unhide HM] at hul1 hul0
            obtain ⟨gv, cv, e, hv1, hv1n, _, _⟩ := own_rd (unhide HL).rr.own hu1
            subst e
            have hv0 := row_cell (unhide HL).rr.own hu0
            have hv0n : i < X.length := by omega
            obtain ⟨gl1, cl1, e, _, _, _, _⟩ := own_rd hul1 (nsv_get (lrow_at (Nat.zero_le _)))
            subst e
            obtain ⟨gl0, cl0, e, _, _, _, _⟩ := own_rd hul0 (nsv_get (lrow_at (Nat.zero_le _)))
            subst e
            have hl1 := row_cell hul1 (nsv_get (lrow_at (x := x) (y := y) (p := 0 + i1) (j := j) (by rw [unhide HM]; omega)))
            have hl0 := row_cell hul0 (nsv_get (lrow_at (x := x) (y := y) (p := 0 + i) (j := j1) (by rw [unhide HM]; omega)))
            rw [Nat.zero_add] at hl1 hl0
            obtain ⟨P1, hP1⟩ : ∃ z, lcs (x.drop i1) (y.drop j) = z := ⟨_, rfl⟩
            obtain ⟨P0, hP0⟩ : ∃ z, lcs (x.drop i) (y.drop j1) = z := ⟨_, rfl⟩
            rw [hP1] at hl1
            rw [hP0] at hl0
            obtain ⟨m1, hm1⟩ : ∃ z, m + 1 = z := ⟨_, rfl⟩
            rw [hm1] at hv1 hv0
            have i1X : (i1 : Int) < (X.length : Int) := by omega
            have iX : (i : Int) < (X.length : Int) := by omega
            have jm1 : (j : Int) < (m1 : Int) := by omega
            have j1m1 : (j1 : Int) < (m1 : Int) := by omega
            have HCD := hide (And.intro hc hd)
            by_cases hcmp : P0 ≤ P1
            · have hcmpI : (P0 : Int) ≤ (P1 : Int) := by omega
              have hk := (lead_drop hsm (by unfold dropB; rw [hi1, hj1, hP1, hP0]; simp; exact .inr ⟨by rw [unhide HN]; exact ci, hcmp⟩) (.inl (by rw [unhide HN]; exact ci)) (by rw [unhide HM]; exact hj)).2
              have HK := hide hk
              have HZZ := hide hsm
              obtain ⟨z, hz⟩ : ∃ z : Int, (rn c : Int) = z := ⟨_, rfl⟩
              obtain ⟨z2, hz2⟩ : ∃ z : Int, (rn d : Int) = z := ⟨_, rfl⟩
              rw [hz, hz2] at hzz
              rw [hz] at hca
              rw [hz2] at hcb
              clear hk hsm hX1 hX0 hu1 hu0 hul1 hul0 hP1 hP0 hm1 hc hd hi1 hj1 hcd hz hz2 hv1n hv0n
              go_wp2_with fail
              go_quiet (fail)
              have BD := hide (Go.Joins.below_draws wr.heap.size wr nq)
              have HBw := hide ((unhide HBw).trans ((unhide BD).mono (unhide HBw).size))
              have hca := kept (unhide BD) hca
              have hcb := kept (unhide BD) hcb
              have hv1 := kept (unhide BD) hv1
              have hv0 := kept (unhide BD) hv0
              have hl1 := kept (unhide BD) hl1
              have hl0 := kept (unhide BD) hl0
              obtain ⟨wu, hws⟩ : ∃ z, wr.drewN nq = z := ⟨_, rfl⟩
              rw [hws] at HBw hca hcb hv1 hv0 hl1 hl0 ⊢
              clear hws BD
              go_wp2_with fail
              go_quiet (fail)
              have BD := hide (Go.Joins.below_draws wu.heap.size wu nq)
              have HBw := hide ((unhide HBw).trans ((unhide BD).mono (unhide HBw).size))
              have hv1 := kept (unhide BD) hv1
              have hv0 := kept (unhide BD) hv0
              have hl1 := kept (unhide BD) hl1
              have hl0 := kept (unhide BD) hl0
              obtain ⟨ws, hws⟩ : ∃ z, wu.drewN nq = z := ⟨_, rfl⟩
              rw [hws] at HBw hv1 hv0 hl1 hl0 ⊢
              clear hws BD
              have hal : Below ws.heap.size ws (ws.alloc (.cells #[.int .i64 3, .int .i64 1, .string ⟨#[]⟩] 39)) := (Below.refl _ _).alloc (Nat.le_refl _) _
              have HAL := hide ((unhide HBw).trans (hal.mono (unhide HBw).size))
              have HS2 : Hid ((ws.alloc (.cells #[.int .i64 3, .int .i64 1, .string ⟨#[]⟩] 39)).ownsRow w.heap.size 39 3 (.slice a2 q c2) q (ptc L)) := hide (by have h9 := own_call (unhide HL).out (unhide HAL); rw [unhide HLQ] at h9; exact h9)
              have HB2 := hide ((unhide HL).bel.trans ((unhide HAL).mono (unhide HL).bel.size))
              have HC2 := hide (RowAt.new ws 39 [.int .i64 3, .int .i64 1, .string ⟨#[]⟩])
              clear hal
              go_wp2_with (at_builtin; refine unhide ?_)
              obtain ⟨i9, hi9, hz9, hs9, hb9⟩ := info_parts infoPt
              refine hide ?_
              refine wpList_append_own_at _ rfl _ _ 24 rfl w.heap.size 39 i9 (.agg #[.int .i64 0, .int .i64 0, .string ⟨#[]⟩]) 3 32 Tryd.underlying24 hi9 hz9 hs9 hb9 rfl (by decide) (.slice a2 q c2) q (ptc L) rfl (unhide HS2) ⟨ws.heap.size, 0, none⟩ 1 1 [.int .i64 3, .int .i64 1, .string ⟨#[]⟩] rfl rfl (fun j u hj => by
                have h9 := (unhide HC2).cell j
                rw [hj] at h9
                rw [Addr.add_lit, Nat.zero_add]
                exact h9) (fun u hu => by
                simp only [List.mem_cons, List.not_mem_nil, or_false] at hu
                rcases hu with rfl | rfl | rfl <;> rfl) (by unfold maxLen; omega) (by omega) (unhide HB2).size ?_
              intro v' w3 ho hg _ _
              obtain ⟨a4, c4, rfl, _, _⟩ := own_sl3 ho
              have HL2 := hide ((unhide HL).step (i' := i + 1) (j' := j) (p := ⟨3, 1, ⟨#[]⟩⟩) (unhide HAL) hg (by rw [unhide HLQ]; exact ho) (by rw [one_d 1 (by omega), unhide HK]; rfl) (by omega) (by show 4 * j + 0 ≤ 4 * j; omega))
              clear ho hg HL HS2 HB2 HC2 HAL HBw i9 hi9 hz9 hs9 hb9
              go_wp2_with fail
              have hl9 : (L ++ [(⟨3, 1, ⟨#[]⟩⟩ : Pt)]).length = q + 1 := by rw [List.length_append, unhide HLQ]; rfl
              exact ⟨⟨s + 1, i + 1, j, a4, c4, _, by omega, by omega, by omega, by simp, by first | (simp; done) | (simp; omega), by first | (simp; done) | (simp; omega), by have h9 := unhide HSIJ; omega, by rw [hl9], by rw [hl9]; exact HL2⟩, by simp [intOf]; omega⟩
            · have hcmpI : ¬ (P0 : Int) ≤ (P1 : Int) := by omega
              obtain ⟨d9, hd9, hk⟩ := lead_put hsm (by unfold dropB; rw [hi1, hj1, hP1, hP0]; simp; exact ⟨by rw [unhide HM]; exact hje, fun _ => by omega⟩) (by rw [unhide HN]; exact hi) (by rw [unhide HM]; exact hj)
              obtain rfl : d = d9 := by rw [hd] at hd9; injection hd9
              have HK := hide hk
              obtain ⟨z, hz⟩ : ∃ z : Int, (rn c : Int) = z := ⟨_, rfl⟩
              rw [hz] at hzz hca
              have hcd := (unhide HX).2.1.cps _ (List.mem_of_getElem? hd)
              have henc := enc_cp hcd
              obtain ⟨z2, hz2⟩ : ∃ z : Int, (rn d : Int) = z := ⟨_, rfl⟩
              have henc2 : Utf8.encode z2 = ⟨d.toArray⟩ := by rw [← hz2]; exact henc
              rw [hz2] at hcb
              obtain ⟨S, hS⟩ : ∃ S : ByteArray, (⟨d.toArray⟩ : ByteArray) = S := ⟨_, rfl⟩
              rw [hS] at henc2
              have hcv : ∀ W, (convert 21 9 (.int .i32 z2)).run Tryd.prog W = .ok (.string S) W := fun W => by rw [← henc2]; rfl
              have hSt : Tx S [d] := by rw [← hS]; exact ⟨fun c hc => by rw [List.mem_singleton] at hc; rw [hc]; exact hcd, by simp⟩
              have HST := hide hSt
              have hSs : S.size ≤ 4 := by rw [← hS]; show d.toArray.size ≤ 4; rw [List.size_toArray]; exact hcd.four
              rw [hz2] at hzz
              try clear hk
              try clear hsm
              try clear hX1
              try clear hX0
              try clear hu1
              try clear hu0
              try clear hul1
              try clear hul0
              try clear hP1
              try clear hP0
              try clear hm1
              try clear hc
              try clear hd9
              try clear hd
              try clear hi1
              try clear hj1
              try clear hcd
              try clear hz
              try clear hv1n
              try clear hv0n
              try clear henc
              try clear hz2
              try clear henc2
              try clear hS
              try clear hSt
              go_wp2_with fail
              go_quiet (fail)
              have BD := hide (Go.Joins.below_draws wr.heap.size wr nq)
              have HBw := hide ((unhide HBw).trans ((unhide BD).mono (unhide HBw).size))
              have hca := kept (unhide BD) hca
              have hcb := kept (unhide BD) hcb
              have hv1 := kept (unhide BD) hv1
              have hv0 := kept (unhide BD) hv0
              have hl1 := kept (unhide BD) hl1
              have hl0 := kept (unhide BD) hl0
              obtain ⟨wu, hws⟩ : ∃ z, wr.drewN nq = z := ⟨_, rfl⟩
              rw [hws] at HBw hca hcb hv1 hv0 hl1 hl0 ⊢
              clear hws BD
              go_wp2_with fail
              go_quiet (fail)
              have BD := hide (Go.Joins.below_draws wu.heap.size wu nq)
              have HBw := hide ((unhide HBw).trans ((unhide BD).mono (unhide HBw).size))
              have hcb := kept (unhide BD) hcb
              have hv1 := kept (unhide BD) hv1
              have hv0 := kept (unhide BD) hv0
              have hl1 := kept (unhide BD) hl1
              have hl0 := kept (unhide BD) hl0
              obtain ⟨ws, hws⟩ : ∃ z, wu.drewN nq = z := ⟨_, rfl⟩
              rw [hws] at HBw hcb hv1 hv0 hl1 hl0 ⊢
              clear hws BD
              have hal : Below ws.heap.size ws (ws.alloc (.cells #[.int .i64 2, .int .i64 1, .string S] 39)) := (Below.refl _ _).alloc (Nat.le_refl _) _
              have HAL := hide ((unhide HBw).trans (hal.mono (unhide HBw).size))
              have HS2 : Hid ((ws.alloc (.cells #[.int .i64 2, .int .i64 1, .string S] 39)).ownsRow w.heap.size 39 3 (.slice a2 q c2) q (ptc L)) := hide (by have h9 := own_call (unhide HL).out (unhide HAL); rw [unhide HLQ] at h9; exact h9)
              have HB2 := hide ((unhide HL).bel.trans ((unhide HAL).mono (unhide HL).bel.size))
              have HC2 := hide (RowAt.new ws 39 [.int .i64 2, .int .i64 1, .string S])
              clear hal
              go_wp2_with (at_builtin; refine unhide ?_)
              obtain ⟨i9, hi9, hz9, hs9, hb9⟩ := info_parts infoPt
              refine hide ?_
              refine wpList_append_own_at _ rfl _ _ 24 rfl w.heap.size 39 i9 (.agg #[.int .i64 0, .int .i64 0, .string ⟨#[]⟩]) 3 32 Tryd.underlying24 hi9 hz9 hs9 hb9 rfl (by decide) (.slice a2 q c2) q (ptc L) rfl (unhide HS2) ⟨ws.heap.size, 0, none⟩ 1 1 [.int .i64 2, .int .i64 1, .string S] rfl rfl (fun j u hj => by
                have h9 := (unhide HC2).cell j
                rw [hj] at h9
                rw [Addr.add_lit, Nat.zero_add]
                exact h9) (fun u hu => by
                simp only [List.mem_cons, List.not_mem_nil, or_false] at hu
                rcases hu with rfl | rfl | rfl <;> rfl) (by unfold maxLen; omega) (by omega) (unhide HB2).size ?_
              intro v' w3 ho hg _ _
              obtain ⟨a4, c4, rfl, _, _⟩ := own_sl3 ho
              have HL2 := hide ((unhide HL).step (i' := i) (j' := j + 1) (p := ⟨2, 1, S⟩) (unhide HAL) hg (by rw [unhide HLQ]; exact ho) (by rw [show ([⟨2, 1, S⟩] : List Pt) = [⟨2, ((1 : Nat) : Int), S⟩] from rfl, one_p (n := 1) (unhide HST) (by rfl) (by omega), unhide HK]; rfl) (by omega) (by show 4 * j + S.size ≤ 4 * (j + 1); omega))
              clear ho hg HL HS2 HB2 HC2 HAL HBw i9 hi9 hz9 hs9 hb9
              go_wp2_with fail
              have hl9 : (L ++ [(⟨2, 1, S⟩ : Pt)]).length = q + 1 := by rw [List.length_append, unhide HLQ]; rfl
              exact ⟨⟨s + 1, i, j + 1, a4, c4, _, by omega, by omega, by omega, by simp, by first | (simp; done) | (simp; omega), by first | (simp; done) | (simp; omega), by have h9 := unhide HSIJ; omega, by rw [hl9], by rw [hl9]; exact HL2⟩, by simp [intOf]; omega⟩
        · obtain rfl : j = m := by omega
          have HCC := hide hc
          have hk := (lead_drop (x := x) (y := y) (i := i) (j := j) (by unfold sameB; rw [List.getElem?_eq_none (l := y) (by rw [unhide HM]; exact Nat.le_refl _)]; cases x[i]? <;> rfl) (by unfold dropB; rw [unhide HM]; simp) (.inl (by rw [unhide HN]; exact ci)) (by rw [unhide HM]; exact Nat.le_refl _)).2
          have HK := hide hk
          clear hk hc
          go_wp2_with fail
          refine wp_region_T (S := fun W => Below wr.drew.heap.size wr.drew W) (fun i => decide (i < 22)) (by kernel_rfl) (Below.refl _ _) (fun hHeld => ?_)
          refine tk 0 (v := .int .i64 (i : Int)) rfl (Or.inl ⟨by rfl, ?_⟩) hHeld ?_
          · intro w hSw
            skip
            first
              | rfl
              | (go_simp; done)
          try go_frame
          refine tk 1 (v := .slice aa n ca) rfl (Or.inl ⟨by rfl, ?_⟩) hHeld ?_
          · intro w hSw
            skip
            first
              | rfl
              | (go_simp; done)
          try go_frame
          refine tk 2 (v := .int .i64 (n : Int)) rfl (Or.inl ⟨by rfl, ?_⟩) hHeld ?_
          · intro w hSw
            skip
            first
              | rfl
              | (go_simp; done)
          try go_frame
          refine tk 3 (v := .bool true) rfl (Or.inl ⟨by rfl, ?_⟩) hHeld ?_
          · intro w hSw
            skip
            first
              | rfl
              | (go_simp; done)
          try go_frame
          refine tk 4 (v := .bool true) rfl (Or.inl ⟨by rfl, ?_⟩) hHeld ?_
          · intro w hSw
            skip
            first
              | rfl
              | (go_simp; done)
          try go_frame
          refine tk 5 (v := .int .i64 (j : Int)) rfl (Or.inl ⟨by rfl, ?_⟩) hHeld ?_
          · intro w hSw
            skip
            first
              | rfl
              | (go_simp; done)
          try go_frame
          refine tk 6 (v := .slice ab j cb) rfl (Or.inl ⟨by rfl, ?_⟩) hHeld ?_
          · intro w hSw
            skip
            first
              | rfl
              | (go_simp; done)
          try go_frame
          refine tk 7 (v := .int .i64 (j : Int)) rfl (Or.inl ⟨by rfl, ?_⟩) hHeld ?_
          · intro w hSw
            skip
            first
              | rfl
              | (go_simp; done)
          try go_frame
          refine tk 8 (v := .bool false) rfl (Or.inl ⟨by rfl, ?_⟩) hHeld ?_
          · intro w hSw
            skip
            first
              | rfl
              | (go_simp; done)
          try go_frame
          refine tk 9 (v := .bool false) rfl (Or.inl ⟨by rfl, ?_⟩) hHeld ?_
          · intro w hSw
            skip
            first
              | rfl
              | (go_simp; done)
          try go_frame
          refine tk 10 (v := .bool false) rfl (Or.inl ⟨by rfl, ?_⟩) hHeld ?_
          · intro w hSw
            skip
            first
              | rfl
              | (go_simp; done)
          try go_frame
          refine tk 11 (v := undef) rfl (Or.inr ⟨by rfl, rfl⟩) hHeld ?_
          try go_frame
          refine tk 12 (v := undef) rfl (Or.inr ⟨by rfl, rfl⟩) hHeld ?_
          try go_frame
          refine tk 13 (v := undef) rfl (Or.inr ⟨by rfl, rfl⟩) hHeld ?_
          try go_frame
          refine tk 14 (v := undef) rfl (Or.inr ⟨by rfl, rfl⟩) hHeld ?_
          try go_frame
          refine tk 15 (v := undef) rfl (Or.inr ⟨by rfl, rfl⟩) hHeld ?_
          try go_frame
          refine tk 16 (v := undef) rfl (Or.inr ⟨by rfl, rfl⟩) hHeld ?_
          try go_frame
          refine tk 17 (v := undef) rfl (Or.inr ⟨by rfl, rfl⟩) hHeld ?_
          try go_frame
          refine tk 18 (v := undef) rfl (Or.inr ⟨by rfl, rfl⟩) hHeld ?_
          try go_frame
          refine tk 19 (v := undef) rfl (Or.inr ⟨by rfl, rfl⟩) hHeld ?_
          try go_frame
          refine tk 20 (v := .bool false) rfl (Or.inl ⟨by rfl, ?_⟩) hHeld ?_
          · intro w hSw
            skip
            first
              | rfl
              | (go_simp; done)
          try go_frame
          refine tk 21 (v := .bool false) rfl (Or.inl ⟨by rfl, ?_⟩) hHeld ?_
          · intro w hSw
            skip
            first
              | rfl
              | (go_simp; done)
          try go_frame
          refine wpAnyT_done (by kernel_rfl) ?_ _
          have HBw := hide ((unhide HBw).trans ((Below.refl wr.heap.size wr).drew.mono (unhide HBw).size))
          obtain ⟨wu, hws⟩ : ∃ z, wr.drew = z := ⟨_, rfl⟩
          rw [hws] at HBw ⊢
          clear hws
          go_wp2_with fail
          refine wp_region_T (S := fun W => Below wu.drew.heap.size wu.drew W) (fun i => decide (i < 30)) (by kernel_rfl) (Below.refl _ _) (fun hHeld => ?_)
          refine tk 0 (v := .int .i64 (j : Int)) rfl (Or.inl ⟨by rfl, ?_⟩) hHeld ?_
          · intro w hSw
            skip
            first
              | rfl
              | (go_simp; done)
          try go_frame
          refine tk 1 (v := .slice ab j cb) rfl (Or.inl ⟨by rfl, ?_⟩) hHeld ?_
          · intro w hSw
            skip
            first
              | rfl
              | (go_simp; done)
          try go_frame
          refine tk 2 (v := .int .i64 (j : Int)) rfl (Or.inl ⟨by rfl, ?_⟩) hHeld ?_
          · intro w hSw
            skip
            first
              | rfl
              | (go_simp; done)
          try go_frame
          refine tk 3 (v := .bool true) rfl (Or.inl ⟨by rfl, ?_⟩) hHeld ?_
          · intro w hSw
            skip
            first
              | rfl
              | (go_simp; done)
          try go_frame
          refine tk 4 (v := .bool true) rfl (Or.inl ⟨by rfl, ?_⟩) hHeld ?_
          · intro w hSw
            skip
            first
              | rfl
              | (go_simp; done)
          try go_frame
          refine tk 5 (v := undef) rfl (Or.inr ⟨by rfl, rfl⟩) hHeld ?_
          try go_frame
          refine tk 6 (v := undef) rfl (Or.inr ⟨by rfl, rfl⟩) hHeld ?_
          try go_frame
          refine tk 7 (v := undef) rfl (Or.inr ⟨by rfl, rfl⟩) hHeld ?_
          try go_frame
          refine tk 8 (v := undef) rfl (Or.inr ⟨by rfl, rfl⟩) hHeld ?_
          try go_frame
          refine tk 9 (v := undef) rfl (Or.inr ⟨by rfl, rfl⟩) hHeld ?_
          try go_frame
          refine tk 10 (v := undef) rfl (Or.inr ⟨by rfl, rfl⟩) hHeld ?_
          try go_frame
          refine tk 11 (v := undef) rfl (Or.inr ⟨by rfl, rfl⟩) hHeld ?_
          try go_frame
          refine tk 12 (v := undef) rfl (Or.inr ⟨by rfl, rfl⟩) hHeld ?_
          try go_frame
          refine tk 13 (v := undef) rfl (Or.inr ⟨by rfl, rfl⟩) hHeld ?_
          try go_frame
          refine tk 14 (v := undef) rfl (Or.inr ⟨by rfl, rfl⟩) hHeld ?_
          try go_frame
          refine tk 15 (v := undef) rfl (Or.inr ⟨by rfl, rfl⟩) hHeld ?_
          try go_frame
          refine tk 16 (v := undef) rfl (Or.inr ⟨by rfl, rfl⟩) hHeld ?_
          try go_frame
          refine tk 17 (v := undef) rfl (Or.inr ⟨by rfl, rfl⟩) hHeld ?_
          try go_frame
          refine tk 18 (v := undef) rfl (Or.inr ⟨by rfl, rfl⟩) hHeld ?_
          try go_frame
          refine tk 19 (v := undef) rfl (Or.inr ⟨by rfl, rfl⟩) hHeld ?_
          try go_frame
          refine tk 20 (v := undef) rfl (Or.inr ⟨by rfl, rfl⟩) hHeld ?_
          try go_frame
          refine tk 21 (v := undef) rfl (Or.inr ⟨by rfl, rfl⟩) hHeld ?_
          try go_frame
          refine tk 22 (v := undef) rfl (Or.inr ⟨by rfl, rfl⟩) hHeld ?_
          try go_frame
          refine tk 23 (v := undef) rfl (Or.inr ⟨by rfl, rfl⟩) hHeld ?_
          try go_frame
          refine tk 24 (v := undef) rfl (Or.inr ⟨by rfl, rfl⟩) hHeld ?_
          try go_frame
          refine tk 25 (v := undef) rfl (Or.inr ⟨by rfl, rfl⟩) hHeld ?_
          try go_frame
          refine tk 26 (v := undef) rfl (Or.inr ⟨by rfl, rfl⟩) hHeld ?_
          try go_frame
          refine tk 27 (v := undef) rfl (Or.inr ⟨by rfl, rfl⟩) hHeld ?_
          try go_frame
          refine tk 28 (v := .bool true) rfl (Or.inl ⟨by rfl, ?_⟩) hHeld ?_
          · intro w hSw
            skip
            first
              | rfl
              | (go_simp; done)
          try go_frame
          refine tk 29 (v := .bool true) rfl (Or.inl ⟨by rfl, ?_⟩) hHeld ?_
          · intro w hSw
            skip
            first
              | rfl
              | (go_simp; done)
          try go_frame
          refine wpAnyT_done (by kernel_rfl) ?_ _
          have HBw := hide ((unhide HBw).trans ((Below.refl wu.heap.size wu).drew.mono (unhide HBw).size))
          obtain ⟨ws, hws⟩ : ∃ z, wu.drew = z := ⟨_, rfl⟩
          rw [hws] at HBw ⊢
          clear hws
          have hal : Below ws.heap.size ws (ws.alloc (.cells #[.int .i64 3, .int .i64 1, .string ⟨#[]⟩] 39)) := (Below.refl _ _).alloc (Nat.le_refl _) _
          have HAL := hide ((unhide HBw).trans (hal.mono (unhide HBw).size))
          have HS2 : Hid ((ws.alloc (.cells #[.int .i64 3, .int .i64 1, .string ⟨#[]⟩] 39)).ownsRow w.heap.size 39 3 (.slice a2 q c2) q (ptc L)) := hide (by have h9 := own_call (unhide HL).out (unhide HAL); rw [unhide HLQ] at h9; exact h9)
          have HB2 := hide ((unhide HL).bel.trans ((unhide HAL).mono (unhide HL).bel.size))
          have HC2 := hide (RowAt.new ws 39 [.int .i64 3, .int .i64 1, .string ⟨#[]⟩])
          clear hal
          go_wp2_with (at_builtin; refine unhide ?_)
          obtain ⟨i9, hi9, hz9, hs9, hb9⟩ := info_parts infoPt
          refine hide ?_
          refine wpList_append_own_at _ rfl _ _ 24 rfl w.heap.size 39 i9 (.agg #[.int .i64 0, .int .i64 0, .string ⟨#[]⟩]) 3 32 Tryd.underlying24 hi9 hz9 hs9 hb9 rfl (by decide) (.slice a2 q c2) q (ptc L) rfl (unhide HS2) ⟨ws.heap.size, 0, none⟩ 1 1 [.int .i64 3, .int .i64 1, .string ⟨#[]⟩] rfl rfl (fun j u hj => by
            have h9 := (unhide HC2).cell j
            rw [hj] at h9
            rw [Addr.add_lit, Nat.zero_add]
            exact h9) (fun u hu => by
            simp only [List.mem_cons, List.not_mem_nil, or_false] at hu
            rcases hu with rfl | rfl | rfl <;> rfl) (by unfold maxLen; omega) (by omega) (unhide HB2).size ?_
          intro v' w3 ho hg _ _
          obtain ⟨a4, c4, rfl, _, _⟩ := own_sl3 ho
          have HL2 := hide ((unhide HL).step (i' := i + 1) (j' := j) (p := ⟨3, 1, ⟨#[]⟩⟩) (unhide HAL) hg (by rw [unhide HLQ]; exact ho) (by rw [one_d 1 (by omega), unhide HK]; rfl) (by omega) (by show 4 * j + 0 ≤ 4 * j; omega))
          clear ho hg HL HS2 HB2 HC2 HAL HBw i9 hi9 hz9 hs9 hb9
          go_wp2_with fail
          have hl9 : (L ++ [(⟨3, 1, ⟨#[]⟩⟩ : Pt)]).length = q + 1 := by rw [List.length_append, unhide HLQ]; rfl
          exact ⟨⟨s + 1, i + 1, j, a4, c4, _, by omega, by omega, by omega, by simp, by first | (simp; done) | (simp; omega), by first | (simp; done) | (simp; omega), by have h9 := unhide HSIJ; omega, by rw [hl9], by rw [hl9]; exact HL2⟩, by simp [intOf]; omega⟩
      · obtain rfl : i = n := by omega
        by_cases cj : j < m
        · obtain ⟨d, hd⟩ : ∃ z, y[j]? = some z := ⟨_, List.getElem?_eq_getElem (by rw [unhide HM]; omega)⟩
          have hjm : (j : Int) < (m : Int) := by omega
          have hje : ¬ j = m := by omega
          have hje2 : ((j : Int) == (m : Int)) = false := by simp; omega
          have hje3 : decide ((j : Int) = (m : Int)) = false := decide_eq_false (by omega)
          have hje4 : decide (j = m) = false := decide_eq_false hje
          have hje5 : (j == m) = false := by simp [hje]
          obtain ⟨gb, cb2, e, hcb, _⟩ := own_rd (unhide HL).b (rnv_at hd)
          injection e with e1 e2 e3
          clear e2
          subst e1 e3
          obtain ⟨d9, hd9, hk⟩ := lead_put (x := x) (y := y) (i := i) (j := j) (by unfold sameB; rw [List.getElem?_eq_none (l := x) (by rw [unhide HN]; exact Nat.le_refl _)]) (by unfold dropB; rw [unhide HN, unhide HM]; simp; exact hje) (by rw [unhide HN]; exact Nat.le_refl _) (by rw [unhide HM]; exact hj)
          obtain rfl : d = d9 := by rw [hd] at hd9; injection hd9
          have HK := hide hk
          have hcd := (unhide HX).2.1.cps _ (List.mem_of_getElem? hd)
          have henc := enc_cp hcd
          obtain ⟨z2, hz2⟩ : ∃ z : Int, (rn d : Int) = z := ⟨_, rfl⟩
          have henc2 : Utf8.encode z2 = ⟨d.toArray⟩ := by rw [← hz2]; exact henc
          rw [hz2] at hcb
          obtain ⟨S, hS⟩ : ∃ S : ByteArray, (⟨d.toArray⟩ : ByteArray) = S := ⟨_, rfl⟩
          rw [hS] at henc2
          have hcv : ∀ W, (convert 21 9 (.int .i32 z2)).run Tryd.prog W = .ok (.string S) W := fun W => by rw [← henc2]; rfl
          have hSt : Tx S [d] := by rw [← hS]; exact ⟨fun c hc => by rw [List.mem_singleton] at hc; rw [hc]; exact hcd, by simp⟩
          have HST := hide hSt
          have hSs : S.size ≤ 4 := by rw [← hS]; show d.toArray.size ≤ 4; rw [List.size_toArray]; exact hcd.four
          clear hk hd hd9 hz2 hcd henc henc2 hS hSt
          go_wp2_with fail
          refine wp_region_T (S := fun W => Below wr.drew.heap.size wr.drew W) (fun i => decide (i < 22)) (by kernel_rfl) (Below.refl _ _) (fun hHeld => ?_)
          refine tk 0 (v := .int .i64 (i : Int)) rfl (Or.inl ⟨by rfl, ?_⟩) hHeld ?_
          · intro w hSw
            skip
            first
              | rfl
              | (go_simp; done)
          try go_frame
          refine tk 1 (v := .slice aa i ca) rfl (Or.inl ⟨by rfl, ?_⟩) hHeld ?_
          · intro w hSw
            skip
            first
              | rfl
              | (go_simp; done)
          try go_frame
          refine tk 2 (v := .int .i64 (i : Int)) rfl (Or.inl ⟨by rfl, ?_⟩) hHeld ?_
          · intro w hSw
            skip
            first
              | rfl
              | (go_simp; done)
          try go_frame
          refine tk 3 (v := .bool false) rfl (Or.inl ⟨by rfl, ?_⟩) hHeld ?_
          · intro w hSw
            skip
            first
              | rfl
              | (go_simp; done)
          try go_frame
          refine tk 4 (v := .bool false) rfl (Or.inl ⟨by rfl, ?_⟩) hHeld ?_
          · intro w hSw
            skip
            first
              | rfl
              | (go_simp; done)
          try go_frame
          refine tk 5 (v := undef) rfl (Or.inr ⟨by rfl, rfl⟩) hHeld ?_
          try go_frame
          refine tk 6 (v := undef) rfl (Or.inr ⟨by rfl, rfl⟩) hHeld ?_
          try go_frame
          refine tk 7 (v := undef) rfl (Or.inr ⟨by rfl, rfl⟩) hHeld ?_
          try go_frame
          refine tk 8 (v := undef) rfl (Or.inr ⟨by rfl, rfl⟩) hHeld ?_
          try go_frame
          refine tk 9 (v := .bool false) rfl (Or.inl ⟨by rfl, ?_⟩) hHeld ?_
          · intro w hSw
            skip
            first
              | rfl
              | (go_simp; done)
          try go_frame
          refine tk 10 (v := .bool false) rfl (Or.inl ⟨by rfl, ?_⟩) hHeld ?_
          · intro w hSw
            skip
            first
              | rfl
              | (go_simp; done)
          try go_frame
          refine tk 11 (v := undef) rfl (Or.inr ⟨by rfl, rfl⟩) hHeld ?_
          try go_frame
          refine tk 12 (v := undef) rfl (Or.inr ⟨by rfl, rfl⟩) hHeld ?_
          try go_frame
          refine tk 13 (v := undef) rfl (Or.inr ⟨by rfl, rfl⟩) hHeld ?_
          try go_frame
          refine tk 14 (v := undef) rfl (Or.inr ⟨by rfl, rfl⟩) hHeld ?_
          try go_frame
          refine tk 15 (v := undef) rfl (Or.inr ⟨by rfl, rfl⟩) hHeld ?_
          try go_frame
          refine tk 16 (v := undef) rfl (Or.inr ⟨by rfl, rfl⟩) hHeld ?_
          try go_frame
          refine tk 17 (v := undef) rfl (Or.inr ⟨by rfl, rfl⟩) hHeld ?_
          try go_frame
          refine tk 18 (v := undef) rfl (Or.inr ⟨by rfl, rfl⟩) hHeld ?_
          try go_frame
          refine tk 19 (v := undef) rfl (Or.inr ⟨by rfl, rfl⟩) hHeld ?_
          try go_frame
          refine tk 20 (v := .bool false) rfl (Or.inl ⟨by rfl, ?_⟩) hHeld ?_
          · intro w hSw
            skip
            first
              | rfl
              | (go_simp; done)
          try go_frame
          refine tk 21 (v := .bool false) rfl (Or.inl ⟨by rfl, ?_⟩) hHeld ?_
          · intro w hSw
            skip
            first
              | rfl
              | (go_simp; done)
          try go_frame
          refine wpAnyT_done (by kernel_rfl) ?_ _
          have HBw := hide ((unhide HBw).trans ((Below.refl wr.heap.size wr).drew.mono (unhide HBw).size))
          obtain ⟨wu, hws⟩ : ∃ z, wr.drew = z := ⟨_, rfl⟩
          rw [hws] at HBw ⊢
          clear hws
          go_wp2_with fail
          refine wp_region_T (S := fun W => Below wu.drew.heap.size wu.drew W) (fun i => decide (i < 30)) (by kernel_rfl) (Below.refl _ _) (fun hHeld => ?_)
          refine tk 0 (v := .int .i64 (j : Int)) rfl (Or.inl ⟨by rfl, ?_⟩) hHeld ?_
          · intro w hSw
            skip
            first
              | rfl
              | (go_simp; done)
          try go_frame
          refine tk 1 (v := .slice (some ⟨gb, 0, none⟩) m cb) rfl (Or.inl ⟨by rfl, ?_⟩) hHeld ?_
          · intro w hSw
            skip
            first
              | rfl
              | (go_simp; done)
          try go_frame
          refine tk 2 (v := .int .i64 (m : Int)) rfl (Or.inl ⟨by rfl, ?_⟩) hHeld ?_
          · intro w hSw
            skip
            first
              | rfl
              | (go_simp; done)
          try go_frame
          refine tk 3 (v := .bool false) rfl (Or.inl ⟨by rfl, ?_⟩) hHeld ?_
          · intro w hSw
            skip
            first
              | rfl
              | (go_simp; done)
          try go_frame
          refine tk 4 (v := .bool false) rfl (Or.inl ⟨by rfl, ?_⟩) hHeld ?_
          · intro w hSw
            skip
            first
              | rfl
              | (go_simp; done)
          try go_frame
          refine tk 5 (v := .int .i64 (i : Int)) rfl (Or.inl ⟨by rfl, ?_⟩) hHeld ?_
          · intro w hSw
            skip
            first
              | rfl
              | (go_simp; done)
          try go_frame
          refine tk 6 (v := .slice aa i ca) rfl (Or.inl ⟨by rfl, ?_⟩) hHeld ?_
          · intro w hSw
            skip
            first
              | rfl
              | (go_simp; done)
          try go_frame
          refine tk 7 (v := .int .i64 (i : Int)) rfl (Or.inl ⟨by rfl, ?_⟩) hHeld ?_
          · intro w hSw
            skip
            first
              | rfl
              | (go_simp; done)
          try go_frame
          refine tk 8 (v := .bool false) rfl (Or.inl ⟨by rfl, ?_⟩) hHeld ?_
          · intro w hSw
            skip
            first
              | rfl
              | (go_simp; done)
          try go_frame
          refine tk 9 (v := .bool false) rfl (Or.inl ⟨by rfl, ?_⟩) hHeld ?_
          · intro w hSw
            skip
            first
              | rfl
              | (go_simp; done)
          try go_frame
          refine tk 10 (v := undef) rfl (Or.inr ⟨by rfl, rfl⟩) hHeld ?_
          try go_frame
          refine tk 11 (v := undef) rfl (Or.inr ⟨by rfl, rfl⟩) hHeld ?_
          try go_frame
          refine tk 12 (v := undef) rfl (Or.inr ⟨by rfl, rfl⟩) hHeld ?_
          try go_frame
          refine tk 13 (v := undef) rfl (Or.inr ⟨by rfl, rfl⟩) hHeld ?_
          try go_frame
          refine tk 14 (v := undef) rfl (Or.inr ⟨by rfl, rfl⟩) hHeld ?_
          try go_frame
          refine tk 15 (v := undef) rfl (Or.inr ⟨by rfl, rfl⟩) hHeld ?_
          try go_frame
          refine tk 16 (v := undef) rfl (Or.inr ⟨by rfl, rfl⟩) hHeld ?_
          try go_frame
          refine tk 17 (v := undef) rfl (Or.inr ⟨by rfl, rfl⟩) hHeld ?_
          try go_frame
          refine tk 18 (v := undef) rfl (Or.inr ⟨by rfl, rfl⟩) hHeld ?_
          try go_frame
          refine tk 19 (v := undef) rfl (Or.inr ⟨by rfl, rfl⟩) hHeld ?_
          try go_frame
          refine tk 20 (v := undef) rfl (Or.inr ⟨by rfl, rfl⟩) hHeld ?_
          try go_frame
          refine tk 21 (v := undef) rfl (Or.inr ⟨by rfl, rfl⟩) hHeld ?_
          try go_frame
          refine tk 22 (v := undef) rfl (Or.inr ⟨by rfl, rfl⟩) hHeld ?_
          try go_frame
          refine tk 23 (v := undef) rfl (Or.inr ⟨by rfl, rfl⟩) hHeld ?_
          try go_frame
          refine tk 24 (v := undef) rfl (Or.inr ⟨by rfl, rfl⟩) hHeld ?_
          try go_frame
          refine tk 25 (v := undef) rfl (Or.inr ⟨by rfl, rfl⟩) hHeld ?_
          try go_frame
          refine tk 26 (v := undef) rfl (Or.inr ⟨by rfl, rfl⟩) hHeld ?_
          try go_frame
          refine tk 27 (v := .bool false) rfl (Or.inl ⟨by rfl, ?_⟩) hHeld ?_
          · intro w hSw
            skip
            first
              | rfl
              | (go_simp; done)
          try go_frame
          refine tk 28 (v := .bool false) rfl (Or.inl ⟨by rfl, ?_⟩) hHeld ?_
          · intro w hSw
            skip
            first
              | rfl
              | (go_simp; done)
          try go_frame
          refine tk 29 (v := .bool false) rfl (Or.inl ⟨by rfl, ?_⟩) hHeld ?_
          · intro w hSw
            skip
            first
              | rfl
              | (go_simp; done)
          try go_frame
          refine wpAnyT_done (by kernel_rfl) ?_ _
          have HBw := hide ((unhide HBw).trans ((Below.refl wu.heap.size wu).drew.mono (unhide HBw).size))
          obtain ⟨ws, hws⟩ : ∃ z, wu.drew = z := ⟨_, rfl⟩
          rw [hws] at HBw ⊢
          clear hws
          have hcb := kept (unhide HBw) hcb
          have hal : Below ws.heap.size ws (ws.alloc (.cells #[.int .i64 2, .int .i64 1, .string S] 39)) := (Below.refl _ _).alloc (Nat.le_refl _) _
          have HAL := hide ((unhide HBw).trans (hal.mono (unhide HBw).size))
          have HS2 : Hid ((ws.alloc (.cells #[.int .i64 2, .int .i64 1, .string S] 39)).ownsRow w.heap.size 39 3 (.slice a2 q c2) q (ptc L)) := hide (by have h9 := own_call (unhide HL).out (unhide HAL); rw [unhide HLQ] at h9; exact h9)
          have HB2 := hide ((unhide HL).bel.trans ((unhide HAL).mono (unhide HL).bel.size))
          have HC2 := hide (RowAt.new ws 39 [.int .i64 2, .int .i64 1, .string S])
          clear hal
          go_wp2_with (at_builtin; refine unhide ?_)
          obtain ⟨i9, hi9, hz9, hs9, hb9⟩ := info_parts infoPt
          refine hide ?_
          refine wpList_append_own_at _ rfl _ _ 24 rfl w.heap.size 39 i9 (.agg #[.int .i64 0, .int .i64 0, .string ⟨#[]⟩]) 3 32 Tryd.underlying24 hi9 hz9 hs9 hb9 rfl (by decide) (.slice a2 q c2) q (ptc L) rfl (unhide HS2) ⟨ws.heap.size, 0, none⟩ 1 1 [.int .i64 2, .int .i64 1, .string S] rfl rfl (fun j u hj => by
            have h9 := (unhide HC2).cell j
            rw [hj] at h9
            rw [Addr.add_lit, Nat.zero_add]
            exact h9) (fun u hu => by
            simp only [List.mem_cons, List.not_mem_nil, or_false] at hu
            rcases hu with rfl | rfl | rfl <;> rfl) (by unfold maxLen; omega) (by omega) (unhide HB2).size ?_
          intro v' w3 ho hg _ _
          obtain ⟨a4, c4, rfl, _, _⟩ := own_sl3 ho
          have HL2 := hide ((unhide HL).step (i' := i) (j' := j + 1) (p := ⟨2, 1, S⟩) (unhide HAL) hg (by rw [unhide HLQ]; exact ho) (by rw [show ([⟨2, 1, S⟩] : List Pt) = [⟨2, ((1 : Nat) : Int), S⟩] from rfl, one_p (n := 1) (unhide HST) (by rfl) (by omega), unhide HK]; rfl) (by omega) (by show 4 * j + S.size ≤ 4 * (j + 1); omega))
          clear ho hg HL HS2 HB2 HC2 HAL HBw i9 hi9 hz9 hs9 hb9
          go_wp2_with fail
          have hl9 : (L ++ [(⟨2, 1, S⟩ : Pt)]).length = q + 1 := by rw [List.length_append, unhide HLQ]; rfl
          exact ⟨⟨s + 1, i, j + 1, a4, c4, _, by omega, by omega, by omega, by simp, by first | (simp; done) | (simp; omega), by first | (simp; done) | (simp; omega), by have h9 := unhide HSIJ; omega, by rw [hl9], by rw [hl9]; exact HL2⟩, by simp [intOf]; omega⟩
        · obtain rfl : j = m := by omega
          clear hi hj ci cj
          go_wp2_with fail
          exact ⟨⟨s + 1, i, j, a2, c2, L, by omega, by omega, by omega, by simp, by simp, by simp, .inr ⟨rfl, rfl⟩, by rw [unhide HLQ], by rw [unhide HLQ]; exact HL⟩, by simp [intOf]; omega⟩
    · obtain ⟨hie, hje⟩ : i = n ∧ j = m := by
        rcases unhide HSIJ with h9 | h9
        · omega
        · exact h9
      subst hie hje
      have hend2 := (unhide HL).eq
      rw [← unhide HN, List.drop_length, ← unhide HM, List.drop_length] at hend2
      rw [show leadA [] [] = [] by rw [leadA], List.append_nil] at hend2
      obtain ⟨a5, c5, e5, hp5, _, _⟩ := (unhide HL).out.slice
      rw [unhide HLQ] at e5
      injection e5 with e5 _ e6
      subst e5 e6
      have hst := (unhide HL).txt
      have hB := (unhide HL).bel
      have KN := hide (rnorm_any a2 L c2 wr hp5 (by rw [unhide HLQ]; omega) (by omega))
      have HG := hide (rnorm_good L)
      rw [hend2] at HG
      rw [unhide HLQ] at KN
      have HB := hide hB
      clear hend2 hp5 hst hB HL
      go_wp2_with fail
      refine Calls.mono (unhide KN) ?_
      rintro r w9 ⟨v9, rfl, ho9, b9⟩
      have HO9 := hide (own_base ho9 (unhide HB).size)
      have B9 := hide ((unhide HB).trans (b9.mono (unhide HB).size))
      clear ho9 b9 KN
      go_wp2_with fail
      go_ret2
      exact ⟨.inr ⟨unhide HE, x, y, _, _, (unhide HX).1, (unhide HX).2.1, (unhide HX).2.2.1, (unhide HX).2.2.2, rfl, unhide HO9, (unhide HG).1, (unhide HG).2⟩, unhide B9⟩
end Go.Proofs.YtonabfpgdgnpnaaDoor

namespace Go.Proofs.YtonabfpgdgnpnaaDoor
set_option linter.unusedVariables false
set_option linter.unusedSimpArgs false
open Go.ChangeShapes Go.WideShapes Go.ChangeAt Go.RowKit Go.Joins Go.Deep

/-- whether two stretches meet -/
def mtB (x y : Cut2) : Bool := decide (x.1 ≤ y.2) && decide (y.1 ≤ x.2)
def meetN (X Y : List Cut2) : Nat := (X.map fun x => Y.countP (mtB x)).sum
theorem meetN_take {X Y : List Cut2} {k : Nat} {x : Cut2} (h : X[k]? = some x) : meetN (X.take (k + 1)) Y = meetN (X.take k) Y + Y.countP (mtB x) := by
  unfold meetN
  rw [List.take_add_one, h, List.map_append, List.sum_append]
  simp
theorem count_take {Y : List Cut2} {k : Nat} {x y : Cut2} (h : Y[k]? = some y) : (Y.take (k + 1)).countP (mtB x) = (Y.take k).countP (mtB x) + if mtB x y then 1 else 0 := by
  rw [List.take_add_one, h, List.countP_append]
  simp [List.countP_cons]
end Go.Proofs.YtonabfpgdgnpnaaDoor

namespace Go.Proofs.YtonabfpgdgnpnaaDoor
set_option linter.unusedVariables false
set_option linter.unusedSimpArgs false
open Go.ChangeShapes Go.WideShapes Go.ChangeAt Go.RowKit Go.Joins Go.Deep

def StrR (l : List Pt) (w : World) (r : Ending) (w' : World) : Prop := ∃ v, r = .returned v ∧ w'.ownsRow w.heap.size 84 2 v (sgL l).1.length (cut2C (sgL l).1) ∧ Below w.heap.size w w'
theorem StrR.shape {l : List Pt} {w w' : World} {r : Ending} (h : StrR l w r w') : ∃ a n c, r = .returned (.slice a n c) ∧ (sgL l).1.length = n ∧ w'.ownsRow w.heap.size 84 2 (.slice a n c) n (cut2C (sgL l).1) ∧ Below w.heap.size w w' := by
  obtain ⟨v, rfl, ho, hb⟩ := h
  obtain ⟨a, c, rfl, _, _⟩ := own_sl3 ho
  exact ⟨a, _, c, rfl, rfl, ho, hb⟩
theorem lead_str {w : World} {B : Nat} {a : Option Addr} {c : Nat} {l : List Pt} {x y : List CP} (ho : OwnP w B (.slice a l.length c) l) (nf : NfG 0 l) (at_ : atomsL l = At.can (leadA x y)) (hx : x.length ≤ 1024) (hy : y.length ≤ 1024) : Calls Tryd.prog 46 #[.slice a l.length c] w fun r w' => StrR l w r w' := by
  obtain ⟨d1, k1⟩ := lead_ed nf at_ hx hy
  obtain ⟨a5, c5, e, hp, _, _⟩ := ho.slice
  injection e with e1 _ e3
  subst e1 e3
  exact stretches_any a l c _ _ w hp d1 (by omega)
theorem sgL_len (l : List Pt) : (sgL l).1.length ≤ l.length := by
  have h : ∀ (l : List Pt) (s : List Cut2 × Nat × Int), (l.foldl sgS s).1.length ≤ s.1.length + l.length := by
    intro l
    induction l with
    | nil => intro s; simp
    | cons p l ih =>
      intro s
      rw [List.foldl_cons]
      have h1 := ih (sgS s p)
      have h2 : (sgS s p).1.length ≤ s.1.length + 1 := by
        unfold sgS
        split
        · simp
        · split
          · split <;> simp <;> omega
          · simp
      simp only [List.length_cons]
      omega
  have := h l ([], 0, 0)
  unfold sgL
  simpa using this
theorem lead_few {l : List Pt} {x y : List CP} (nf : NfG 0 l) (e : atomsL l = At.can (leadA x y)) (hx : x.length ≤ 1024) (hy : y.length ≤ 1024) : (sgL l).1.length ≤ 2048 := Nat.le_trans (sgL_len l) (lead_ed nf e hx hy).2
theorem cut2_rd {w : World} {B n c : Nat} {a : Option Addr} {L : List Cut2} (h : w.ownsRow B 84 2 (.slice a n c) n (cut2C L)) {i : Nat} {x : Cut2} (hx : L[i]? = some x) : ∃ g, a = some ⟨g, 0, none⟩ ∧ w.cell? ⟨g, i * 2, none⟩ = some (.int .i64 (x.1 : Int)) ∧ w.cell? ⟨g, i * 2 + 1, none⟩ = some (.int .i64 (x.2 : Int)) := by
  have hn : 0 < n := by
    have h1 := h.1
    rw [cut2C_len] at h1
    have := (List.getElem?_eq_some_iff.1 hx).1
    omega
  obtain ⟨g, rfl, _, _⟩ := own_g2 h hn
  exact ⟨g, rfl, (own_c2 h (cut2_at hx).1).1, (own_c2 h (cut2_at hx).2).1⟩
def MeetR (b a c : ByteArray) (w : World) (r : Ending) (w' : World) : Prop := (firstE [b, a, c] ≠ 0 ∧ r = .returned (.tuple #[.int .i64 0, .int .i64 (firstE [b, a, c])]) ∨ firstE [b, a, c] = 0 ∧ ∃ x y z l m, Tx b x ∧ Tx a y ∧ Tx c z ∧ x.length ≤ 1024 ∧ y.length ≤ 1024 ∧ z.length ≤ 1024 ∧ NfG 0 l ∧ atomsL l = At.can (leadA x y) ∧ NfG 0 m ∧ atomsL m = At.can (leadA x z) ∧ r = .returned (.tuple #[.int .i64 (meetN (sgL l).1 (sgL m).1 : Int), .int .i64 0])) ∧ Below w.heap.size w w'
set_option maxRecDepth 100000 in
set_option maxHeartbeats 4000000 in
theorem meet_any (a b c : ByteArray) (w : World) (hT : UT w) (hsa : a.size ≤ 1099511627776) (hsb : b.size ≤ 1099511627776) (hsc : c.size ≤ 1099511627776) : Calls Tryd.prog 24 #[.string a, .string b, .string c] w fun r w' => MeetR a b c w r w' := by
  have HU : Hid (∀ W, Below w.heap.size w W → UT W) := hide (fun W h => hT.call h)
  have bP : Below w.heap.size w (w.alloc (.cells #[.string a, .string b, .string c] 9)) := (Below.refl _ _).alloc (Nat.le_refl _) _
  have KR := hide (read_any w.heap.size (.slice (some ⟨w.heap.size, 0, none⟩) 3 3) [a, b, c] (w.alloc (.cells #[.string a, .string b, .string c] 9)) (hT.call bP) (own_row (RowAt.new w 9 [.string a, .string b, .string c]) (Nat.le_refl _) (by show 3 ≤ maxLen; unfold maxLen; omega)) (by simp) (by simp only [List.mem_cons, List.not_mem_nil, or_false]; rintro s (rfl | rfl | rfl) <;> assumption))
  have B1 := hide bP
  obtain ⟨w1, hw1⟩ : ∃ z, w.alloc (.cells #[.string a, .string b, .string c] 9) = z := ⟨_, rfl⟩
  have HW1 := hide hw1
  rw [hw1] at KR B1
  clear hT bP hw1
  go_enter Tryd.func24, Tryd.ntmps24
  go_wp2_with fail
  try rw [unhide HW1]
  clear HW1
  refine Calls.mono (unhide KR) ?_
  rintro r w2 ⟨h2, b2⟩
  have B2 := hide ((unhide B1).trans (b2.mono (unhide B1).size))
  have hBs := (unhide B1).size
  clear b2 KR
  rcases h2 with ⟨hf, rfl⟩ | ⟨hf, v, vs, X, rfl, hrd, htx, hxl⟩
  · obtain ⟨e, he⟩ : ∃ z, firstE [a, b, c] = z := ⟨_, rfl⟩
    have HE := hide he
    have he0 : (e != 0) = true := by rw [← he]; simp [hf]
    have HF := hide hf
    rw [he]
    clear hf he
    go_wp2_with fail
    go_ret2
    exact ⟨.inl ⟨unhide HF, by rw [unhide HE]; rfl⟩, unhide B2⟩
  · obtain ⟨x, y, z, rfl⟩ := three_get hxl
    have hvl := hrd.len
    obtain ⟨u0, u1, u2, rfl⟩ := three_get hvl
    obtain ⟨ht0, hl0⟩ := htx 0 _ _ rfl rfl
    have ho0 := hrd.each 0 _ _ rfl rfl
    obtain ⟨a0, c0, rfl, _, _⟩ := own_sl ho0
    obtain ⟨ht1, hl1⟩ := htx 1 _ _ rfl rfl
    have ho1 := hrd.each 1 _ _ rfl rfl
    obtain ⟨a1, c1, rfl, _, _⟩ := own_sl ho1
    obtain ⟨ht2, hl2⟩ := htx 2 _ _ rfl rfl
    have ho2 := hrd.each 2 _ _ rfl rfl
    obtain ⟨a2, c2, rfl, _, _⟩ := own_sl ho2
    obtain ⟨gl, cl, rfl, hc0, -, hlc, hlm⟩ := own_rd hrd.own (i := 0) rfl
    have hc1 : w2.cell? ⟨gl, 1, none⟩ = some (.slice a1 y.length c1) := row_cell (n := 3) (by exact hrd.own) rfl
    have hc2 : w2.cell? ⟨gl, 2, none⟩ = some (.slice a2 z.length c2) := row_cell (n := 3) (by exact hrd.own) rfl
    have KL := hide (fun W (hb : Below w2.heap.size w2 W) => lead_any (unhide HU W ((unhide B2).trans (hb.mono (unhide B2).size))) (own_call ho0 hb) (own_call ho1 hb) ht0.cps ht1.cps hl0 hl1)
    have KM := hide (fun W (hb : Below w2.heap.size w2 W) => lead_any (unhide HU W ((unhide B2).trans (hb.mono (unhide B2).size))) (own_call ho0 hb) (own_call ho2 hb) ht0.cps ht2.cps hl0 hl2)
    have HT := hide (And.intro hf (And.intro ht0 (And.intro ht1 (And.intro ht2 (And.intro hl0 (And.intro hl1 hl2))))))
    have HS : Hid (∀ W, Below w2.heap.size w2 W → W.cell? ⟨gl, 0, none⟩ = some (.slice a0 x.length c0) ∧ W.cell? ⟨gl, 1, none⟩ = some (.slice a1 y.length c1) ∧ W.cell? ⟨gl, 2, none⟩ = some (.slice a2 z.length c2)) := hide (fun W hW => ⟨kept hW hc0, kept hW hc1, kept hW hc2⟩)
    have k0 : Below w2.heap.size w2 w2.drew := (Below.refl _ _).drew
    obtain ⟨n, hn⟩ : ∃ z, x.length = z := ⟨_, rfl⟩
    obtain ⟨m, hm⟩ : ∃ z, y.length = z := ⟨_, rfl⟩
    obtain ⟨q, hq⟩ : ∃ u, z.length = u := ⟨_, rfl⟩
    rw [hn, hm] at KL
    rw [hn, hq] at KM
    rw [hn, hm, hq] at HS
    rw [show ([x, y, z] : List (List CP)).length = 3 from rfl] at *
    clear hf hrd htx hxl hvl ht0 ht1 ht2 hl0 hl1 hl2 ho0 ho1 ho2 hc0 hc1 hc2 hn hm hq
    go_wp2_with fail
    go_region_held3 (fun W => W.cell? ⟨gl, 0, none⟩ = some (.slice a0 n c0) ∧ W.cell? ⟨gl, 1, none⟩ = some (.slice a1 m c1) ∧ W.cell? ⟨gl, 2, none⟩ = some (.slice a2 q c2))
      (first | exact unhide HS _ k0 | exact unhide HS _ k2 | exact unhide HS _ k1)
      (first | (go_at_call 30; with_reducible refine Calls.mono (unhide KM _ k0) ?_; rintro e w3 h3; obtain ⟨a3, l3, c3, rfl, o3, nf3, at3, b3⟩ := LeadR.shape h3; have k1 : Below w2.heap.size w2 w3 := k0.trans (b3.mono k0.size)) | (go_at_call 46; with_reducible refine Calls.mono (lead_str o3 nf3 at3 (unhide HT).2.2.2.2.1 (unhide HT).2.2.2.2.2.2) ?_; rintro e w4 h4; obtain ⟨a4, n4, c4, rfl, hn4, o4, b4⟩ := StrR.shape h4; have k2 : Below w2.heap.size w2 w4 := k1.trans (b4.mono k1.size)))
    have HN3 := hide (And.intro nf3 at3)
    have HO4 := hide (And.intro hn4 o4)
    have hf4 := lead_few nf3 at3 (unhide HT).2.2.2.2.1 (unhide HT).2.2.2.2.2.2
    rw [hn4] at hf4
    have j0 : Below w2.heap.size w2 w4.drew := k2.trans ((Below.refl w4.heap.size w4).drew.mono k2.size)
    have e0 : Below w4.heap.size w4 w4.drew := (Below.refl _ _).drew
    clear k0 k1 k2 b3 b4 o3 nf3 at3 hn4 o4 KM
    go_wp2_with fail
    go_region_held3 (fun W => W.cell? ⟨gl, 0, none⟩ = some (.slice a0 n c0) ∧ W.cell? ⟨gl, 1, none⟩ = some (.slice a1 m c1) ∧ W.cell? ⟨gl, 2, none⟩ = some (.slice a2 q c2))
      (first | exact unhide HS _ j0 | exact unhide HS _ j2 | exact unhide HS _ j1)
      (first | (go_at_call 30; with_reducible refine Calls.mono (unhide KL _ j0) ?_; rintro e w5 h5; obtain ⟨a5, l5, c5, rfl, o5, nf5, at5, b5⟩ := LeadR.shape h5; have j1 : Below w2.heap.size w2 w5 := j0.trans (b5.mono j0.size)) | (go_at_call 46; with_reducible refine Calls.mono (lead_str o5 nf5 at5 (unhide HT).2.2.2.2.1 (unhide HT).2.2.2.2.2.1) ?_; rintro e w6 h6; obtain ⟨a6, n6, c6, rfl, hn6, o6, b6⟩ := StrR.shape h6; have j2 : Below w2.heap.size w2 w6 := j1.trans (b6.mono j1.size)))
    have hf6 := lead_few nf5 at5 (unhide HT).2.2.2.2.1 (unhide HT).2.2.2.2.2.1
    rw [hn6] at hf6
    have e5 : Below w4.heap.size w4 w5 := e0.trans (b5.mono e0.size)
    have e6 : Below w4.heap.size w4 w6 := e5.trans (b6.mono e5.size)
    have HN5 := hide (And.intro nf5 at5)
    have HX6 := hide (And.intro hn6 o6)
    have HY6 := hide (own_call (unhide HO4).2 e6)
    have B6 := hide ((unhide B2).trans (j2.mono (unhide B2).size))
    clear j0 j1 j2 e0 e5 e6 b5 b6 o5 nf5 at5 hn6 o6 HS KL
    go_wp2_with fail
    go_loopw [10, 44] (fun nv iv wr => ∃ (k r : Nat), k ≤ n6 ∧ iv = .int .i64 (k : Int) ∧ nv = .int .i64 (r : Int) ∧ r ≤ k * 2048 ∧ Hid (r = meetN ((sgL l5).1.take k) (sgL l3).1) ∧ Hid (Below w6.heap.size w6 wr)) (fun _ iv _ => ((n6 : Int) - intOf iv).toNat)
    case atStart => exact ⟨0, 0, by omega, by simp, by simp, by omega, hide rfl, hide (Below.refl _ _)⟩
    case round =>
      obtain ⟨k, r, hk, rfl, rfl, hr, HR, HB⟩ := hrel
      by_cases c1 : (k : Int) < (n6 : Int)
      · obtain ⟨wo, hwo⟩ : ∃ z, z = wr := ⟨_, rfl⟩
        subst hwo
        obtain ⟨x1, hx1⟩ : ∃ z, (sgL l5).1[k]? = some z := ⟨_, List.getElem?_eq_getElem (by rw [(unhide HX6).1]; omega)⟩
        obtain ⟨f1, t1⟩ := x1
        obtain ⟨g6, rfl, p0, p1⟩ := cut2_rd (own_call (unhide HX6).2 (unhide HB)) hx1
        have HX1 := hide hx1
        dsimp only at p0 p1
        have hal : Below wo.heap.size wo (wo.alloc (.cells #[.int .i64 (f1 : Int), .int .i64 (t1 : Int)] 84)) := (Below.refl _ _).alloc (Nat.le_refl _) _
        have HRX := hide (RowAt.new wo 84 [.int .i64 (f1 : Int), .int .i64 (t1 : Int)])
        have HBX := hide ((unhide HB).trans (hal.mono (unhide HB).size))
        have k0 : (0 : Int) ≤ (k : Int) := by omega
        clear hx1 hal
        go_wp2_with fail
        go_loopw [10, 50] (fun nv jv wr => ∃ (j r2 : Nat), j ≤ n4 ∧ jv = .int .i64 (j : Int) ∧ nv = .int .i64 (r2 : Int) ∧ r2 ≤ k * 2048 + j ∧ Hid (r2 = r + ((sgL l3).1.take j).countP (mtB (f1, t1))) ∧ Hid (RowAt wr wo.heap.size 84 [.int .i64 (f1 : Int), .int .i64 (t1 : Int)]) ∧ Hid (Below w6.heap.size w6 wr)) (fun _ jv _ => ((n4 : Int) - intOf jv).toNat)
        case atStart => exact ⟨0, r, by omega, by simp, rfl, by omega, hide (by simp), HRX, HBX⟩
        case round =>
          clear HRX HBX p0 p1
          obtain ⟨j, r2, hj, rfl, rfl, hr2, HR2, HRX, HBX⟩ := hrel
          by_cases c2 : (j : Int) < (n4 : Int)
          · obtain ⟨y1, hy1⟩ : ∃ z, (sgL l3).1[j]? = some z := ⟨_, List.getElem?_eq_getElem (by rw [(unhide HO4).1]; omega)⟩
            obtain ⟨f2, t2⟩ := y1
            obtain ⟨g4, rfl, q0, q1⟩ := cut2_rd (own_call (unhide HY6) (unhide HBX)) hy1
            dsimp only at q0 q1
            have hal : Below wr.heap.size wr (wr.alloc (.cells #[.int .i64 (f2 : Int), .int .i64 (t2 : Int)] 84)) := (Below.refl _ _).alloc (Nat.le_refl _) _
            have HRX2 := hide ((unhide HRX).below hal (unhide HRX).lt)
            have HBX2 := hide ((unhide HBX).trans (hal.mono (unhide HBX).size))
            have xr0 := (unhide HRX2).cell 0
            have xr1 := (unhide HRX2).cell 1
            have HCT := hide (count_take (x := (f1, t1)) hy1)
            have j0 : (0 : Int) ≤ (j : Int) := by omega
            have hr3 : r2 ≤ 5000000 := by omega
            clear hy1 hal HRX HBX
            by_cases h1 : f1 ≤ t2
            · have h1I : (f1 : Int) ≤ (t2 : Int) := by omega
              by_cases h2 : f2 ≤ t1
              · have h2I : (f2 : Int) ≤ (t1 : Int) := by omega
                have HR4 : Hid (r2 + 1 = r + ((sgL l3).1.take (j + 1)).countP (mtB (f1, t1))) := hide (by rw [unhide HCT, if_pos (by unfold mtB; simp [h1, h2]), ← Nat.add_assoc, ← unhide HR2])
                go_wp2_with fail
                exact ⟨⟨j + 1, r2 + 1, by omega, by simp, by simp, by omega, HR4, HRX2, HBX2⟩, by simp [intOf]; omega⟩
              · have h2I : ¬ (f2 : Int) ≤ (t1 : Int) := by omega
                have HR4 : Hid (r2 = r + ((sgL l3).1.take (j + 1)).countP (mtB (f1, t1))) := hide (by rw [unhide HCT, if_neg (by unfold mtB; simp; omega), Nat.add_zero, ← unhide HR2])
                go_wp2_with fail
                exact ⟨⟨j + 1, r2, by omega, by simp, rfl, by omega, HR4, HRX2, HBX2⟩, by simp [intOf]; omega⟩
            · have h1I : ¬ (f1 : Int) ≤ (t2 : Int) := by omega
              have HR4 : Hid (r2 = r + ((sgL l3).1.take (j + 1)).countP (mtB (f1, t1))) := hide (by rw [unhide HCT, if_neg (by unfold mtB; simp; omega), Nat.add_zero, ← unhide HR2])
              go_wp2_with fail
              exact ⟨⟨j + 1, r2, by omega, by simp, rfl, by omega, HR4, HRX2, HBX2⟩, by simp [intOf]; omega⟩
          · obtain rfl : n4 = j := by omega
            have HR4 : Hid (r2 = meetN ((sgL l5).1.take (k + 1)) (sgL l3).1) := hide (by
              rw [meetN_take (unhide HX1), ← unhide HR]
              have h9 := unhide HR2
              rw [List.take_of_length_le (by rw [(unhide HO4).1]; exact Nat.le_refl _)] at h9
              exact h9)
            have hr4 : r2 ≤ (k + 1) * 2048 := by omega
            go_wp2_with fail
            exact ⟨⟨k + 1, r2, by omega, by simp, rfl, hr4, HR4, HBX⟩, by simp [intOf]; omega⟩
      · obtain rfl : n6 = k := by omega
        have HF : Hid (r = meetN (sgL l5).1 (sgL l3).1) := hide (by have h9 := unhide HR; rw [List.take_of_length_le (by rw [(unhide HX6).1]; exact Nat.le_refl _)] at h9; exact h9)
        have HE : Hid (MeetR a b c w (.returned (.tuple #[.int .i64 (r : Int), .int .i64 0])) wr) := hide ⟨.inr ⟨(unhide HT).1, x, y, z, l5, l3, (unhide HT).2.1, (unhide HT).2.2.1, (unhide HT).2.2.2.1, (unhide HT).2.2.2.2.1, (unhide HT).2.2.2.2.2.1, (unhide HT).2.2.2.2.2.2, (unhide HN5).1, (unhide HN5).2, (unhide HN3).1, (unhide HN3).2, by rw [← unhide HF]⟩, (unhide B6).trans ((unhide HB).mono (unhide B6).size)⟩
        go_wp2_with fail
        go_ret2
        exact unhide HE
end Go.Proofs.YtonabfpgdgnpnaaDoor

namespace Go.Proofs.YtonabfpgdgnpnaaDoor
set_option linter.unusedVariables false
set_option linter.unusedSimpArgs false
open Go.ChangeShapes Go.WideShapes Go.ChangeAt Go.RowKit Go.Joins Go.Deep

theorem infoStr : ∃ i, Tryd.prog.info? 9 = some i ∧ i.zero = some (.string ByteArray.empty) ∧ i.size = 1 ∧ i.bytes = 16 := info_parts (by kernel_rfl)
theorem infoBoo : ∃ i, Tryd.prog.info? 4 = some i ∧ i.zero = some (.bool false) ∧ i.size = 1 ∧ i.bytes = 1 := info_parts (by kernel_rfl)
/-- an own row of texts; of bools -/
def OwnS (w : World) (B : Nat) (v : Value) (l : List ByteArray) : Prop := w.ownsRow B 9 1 v l.length (l.map .string)
theorem OwnS.call {w w' : World} {B : Nat} {v : Value} {l : List ByteArray} (h : OwnS w B v l) (hb : Below w.heap.size w w') : OwnS w' B v l := own_call h hb
theorem wp_append_str {o : Oper} {a : Act} {K : Act → World → Prop} {Q : Exit → Act → World → Prop} {W : World} (s x : Operand)
    (ho : o.op = .call { callee := .builtin .append, args := #[s, x], argTypes := #[47, 47] }) (B : Nat) (v : Value) (l : List ByteArray) (e : ByteArray) (q c : Nat)
    (hs : a.eval s = v) (hv : OwnS W B v l) (hn : l.length < 4398046511104) (hB : B ≤ W.heap.size) (hx : a.eval x = .slice (some ⟨q, 0, none⟩) 1 c) (hq : W.cell? ⟨q, 0, none⟩ = some (.string e))
    (h : ∀ g cap w', OwnS w' B (.slice (some ⟨g, 0, none⟩) (l.length + 1) cap) (l ++ [e]) → Only (fun k => v.ownBlock = some k) W w' → (v.ownBlock = some g ∨ g = W.heap.size) → K (a.put o.dst (.slice (some ⟨g, 0, none⟩) (l.length + 1) cap)) w') : o.wp Tryd.prog a W K Q := by
  obtain ⟨i0, hi, hz, hsz, hb⟩ := infoStr
  refine wp_append_lies _ s x 47 ho B 9 i0 _ 1 16 Tryd.underlying47 hi hz hsz hb rfl (by decide) v l.length (l.map .string) hs hv ⟨q, 0, none⟩ 1 c [.string e] hx rfl (fun j u hu => ?_) (fun u hu => ?_) (by decide) (by unfold maxLen; omega) (by omega) hB W.heap.size rfl ?_
  · match j with
    | 0 => simp at hu; rw [← hu]; exact hq
    | j + 1 => simp at hu
  · simp only [List.mem_cons, List.not_mem_nil, or_false] at hu
    rcases hu with rfl
    rfl
  · intro g cap w' h1 h2 h3 _
    refine h g cap w' ?_ (grown_only h2) h3
    unfold OwnS
    rw [List.map_append, List.length_append]
    exact h1
theorem wpList_append_str {ops : Array Oper} {rest : List Oper} {o : Oper} {a : Act} {Q : Exit → Act → World → Prop} {W : World} (hgd : o.guard = none) (s x : Operand)
    (ho : o.op = .call { callee := .builtin .append, args := #[s, x], argTypes := #[47, 47] }) (B : Nat) (v : Value) (l : List ByteArray) (e : ByteArray) (q c : Nat)
    (hs : a.eval s = v) (hv : OwnS W B v l) (hn : l.length < 4398046511104) (hB : B ≤ W.heap.size) (hx : a.eval x = .slice (some ⟨q, 0, none⟩) 1 c) (hq : W.cell? ⟨q, 0, none⟩ = some (.string e))
    (h : ∀ g cap w', OwnS w' B (.slice (some ⟨g, 0, none⟩) (l.length + 1) cap) (l ++ [e]) → Only (fun k => v.ownBlock = some k) W w' → (v.ownBlock = some g ∨ g = W.heap.size) → wpList Tryd.prog ops Q rest (a.put o.dst (.slice (some ⟨g, 0, none⟩) (l.length + 1) cap)) w') : wpList Tryd.prog ops Q (o :: rest) a W :=
  wpList_plain hgd fun _ hK => wp_append_str s x ho B v l e q c hs hv hn hB hx hq (fun g cap w' h1 h2 h3 => hK _ _ (h g cap w' h1 h2 h3))
theorem placeOf_lt2 {cs : List (List UInt8)} (h : Cps cs) {i : Nat} (hi : i < cs.length) : placeOf cs i < placeOf cs (i + 1) := by
  unfold placeOf
  rw [List.take_add_one, List.getElem?_eq_getElem hi, List.flatten_append, List.length_append]
  have := List.length_pos_iff.2 (h _ (List.getElem_mem hi)).ne
  simp only [Option.toList_some, List.flatten_cons, List.flatten_nil, List.append_nil]
  omega
/-- the texts that chars makes -/
def chS (s : ByteArray) (cs : List (List UInt8)) (n : Nat) : List ByteArray := (List.range n).map fun i => Utf8.encode (Utf8.decode s (placeOf cs i)).1
theorem chS_len (s : ByteArray) (cs : List (List UInt8)) (n : Nat) : (chS s cs n).length = n := by simp [chS]
theorem chS_next (s : ByteArray) (cs : List (List UInt8)) (n : Nat) : chS s cs (n + 1) = chS s cs n ++ [Utf8.encode (Utf8.decode s (placeOf cs n)).1] := by simp [chS, List.range_succ]
/-- the loop's state: an iterator and an own row -/
structure ChW (w wr : World) (s : ByteArray) (cs : List (List UInt8)) (v : Value) (i : Nat) : Prop where
  it : wr.heap[w.heap.size]? = some (.stringIter s (placeOf cs i))
  own : OwnS wr w.heap.size v (chS s cs i)
  bel : Below w.heap.size w wr
theorem ChW.pos {w wr : World} {s : ByteArray} {cs : List (List UInt8)} {v : Value} {i : Nat} (h : ChW w wr s cs v i) : wr.iterPos w.heap.size = placeOf cs i := by unfold World.iterPos; rw [h.it]
theorem own_itS {w : World} {B : Nat} {v : Value} {l : List ByteArray} (h : OwnS w B v l) {k : Nat} {s : ByteArray} {pos : Nat} (hk : w.heap[k]? = some (.stringIter s pos)) : v.ownBlock ≠ some k := by
  intro e
  rcases h.2 with ⟨rfl, _⟩ | ⟨g, c, cur, rfl, _, e', _⟩
  · cases e
  · obtain rfl : g = k := by simpa [Value.ownBlock] using e
    rw [hk] at e'
    cases e'
theorem ChW.next {w wr : World} {s : ByteArray} {cs : List (List UInt8)} {v : Value} {i : Nat} (h : ChW w wr s cs v i) (ht : Tx s cs) (hi : i < cs.length) :
    (wr.iterAt w.heap.size s (placeOf cs i + (Utf8.decode s (placeOf cs i)).2)).heap[w.heap.size]? = some (.stringIter s (placeOf cs (i + 1))) ∧ OwnS (wr.iterAt w.heap.size s (placeOf cs i + (Utf8.decode s (placeOf cs i)).2)) w.heap.size v (chS s cs i) ∧ Below w.heap.size w (wr.iterAt w.heap.size s (placeOf cs i + (Utf8.decode s (placeOf cs i)).2)) := by
  rw [← (placeOf_next ht hi).1]
  refine ⟨Lib.iterAt_heap _ _ _ _ _ h.it, ?_, Lib.below_iterAt h.bel (Nat.le_refl _) _ _⟩
  have hne := own_itS h.own h.it
  obtain ⟨h1, h2⟩ := h.own
  refine ⟨h1, ?_⟩
  rcases h2 with h2 | ⟨g, c, cur, e1, e2, e3, e4⟩
  · exact .inl h2
  · refine .inr ⟨g, c, cur, e1, e2, ?_, e4⟩
    rw [Lib.iterAt_other _ _ _ _ _ (fun e => hne (by rw [e1, e]; rfl))]
    exact e3
set_option maxRecDepth 100000 in
set_option maxHeartbeats 4000000 in
theorem chars_any (s : ByteArray) (cs : List (List UInt8)) (w : World) (ht : Tx s cs) (hs : cs.length ≤ 1099511627776) :
    Calls Tryd.prog 75 #[.string s] w fun r w' => ∃ v, r = .returned v ∧ OwnS w' w.heap.size v (chS s cs cs.length) ∧ Below w.heap.size w w' := by
  have HT := hide ht
  have HS := hide hs
  obtain ⟨n, hn⟩ : ∃ n, cs.length = n := ⟨_, rfl⟩
  have HN := hide hn
  clear ht hs hn
  go_enter Tryd.func75, Tryd.ntmps75
  go_wp2_with fail
  go_loopw [3] (fun v wr => ∃ i : Nat, i ≤ n ∧ Hid (ChW w wr s cs v i)) (fun _ wr => s.size - wr.iterPos w.heap.size)
  case atStart =>
    exact ⟨0, by omega, hide ⟨by rw [placeOf_zero]; exact World.iter_heap w s 0, World.ownsRow_nil _ _ _ _, (Below.refl _ _).alloc (Nat.le_refl _) (.stringIter s 0)⟩⟩
  case round =>
    obtain ⟨i, hi, HC⟩ := hrel
    have HPO := hide (unhide HC).pos
    by_cases hlt : i < n
    · obtain ⟨q1, q2⟩ := placeOf_next (unhide HT) (show i < cs.length by rw [unhide HN]; exact hlt)
      have hnx := Lib.run_next_any_at (P := Tryd.prog) wr w.heap.size s (placeOf cs i) 0 (unhide HC).it q2
      have HNX := hide ((unhide HC).next (unhide HT) (by rw [unhide HN]; exact hlt))
      have HSL := hide (chS_len s cs i)
      have HCN := hide (chS_next s cs i)
      have HQ := hide (And.intro q1 q2)
      obtain ⟨en, hen⟩ : ∃ z, Utf8.encode (Utf8.decode s (placeOf cs i)).1 = z := ⟨_, rfl⟩
      rw [hen] at HCN
      obtain ⟨wi, hwi⟩ : ∃ z, wr.iterAt w.heap.size s (placeOf cs i + (Utf8.decode s (placeOf cs i)).2) = z := ⟨_, rfl⟩
      rw [hwi] at hnx HNX
      clear hwi
      obtain ⟨rv, hrv⟩ : ∃ z, (Utf8.decode s (placeOf cs i)).1 = z := ⟨_, rfl⟩
      rw [hrv] at hnx hen
      clear hrv
      have hbA : Below wi.heap.size wi (wi.alloc (.cells #[.string en] 9)) := (Below.refl _ _).alloc (Nat.le_refl _) _
      have HOA := hide ((unhide HNX).2.1.call hbA)
      have HIA : Hid ((wi.alloc (.cells #[.string en] 9)).heap[w.heap.size]? = some (.stringIter s (placeOf cs (i + 1)))) := hide (by rw [hbA.block _ (Array.getElem?_eq_some_iff.1 (unhide HNX).1).1]; exact (unhide HNX).1)
      have HBA := hide ((unhide HNX).2.2.trans (hbA.mono (unhide HNX).2.2.size))
      have HRA := hide (RowAt.new wi 9 [.string en])
      clear hbA q1 q2 HC HNX
      go_wp2_with (at_builtin; refine unhide ?_)
      unfold Hid
      refine wpList_append_str rfl _ _ rfl w.heap.size _ (chS s cs i) en wi.heap.size 1 rfl (unhide HOA) ?c0 (unhide HBA).size rfl ((unhide HRA).cell 0) (fun g cap w3 hv ho hk => ?_)
      case c0 => rw [unhide HSL]; have := unhide HS; have := unhide HN; omega
      have HO3 := hide hv
      have hne := own_itS (unhide HOA) (unhide HIA)
      have HI3 : Hid (w3.heap[w.heap.size]? = some (.stringIter s (placeOf cs (i + 1)))) := hide (by rw [ho.block _ (Array.getElem?_eq_some_iff.1 (unhide HIA)).1 hne]; exact unhide HIA)
      have HB3 := hide ((unhide HBA).trans (ho.below (unhide HBA).size (fun k hk => ((unhide HOA).lt k hk).1)))
      clear hv ho hk HOA HIA HBA HRA hne hnx
      rw [unhide HSL] at HO3
      rw [← unhide HCN] at HO3
      go_wp2_with fail
      refine ⟨⟨i + 1, by omega, hide ⟨unhide HI3, ?_, unhide HB3⟩⟩, ?_⟩
      · rw [unhide HSL]; exact unhide HO3
      · have p3 : w3.iterPos w.heap.size = placeOf cs (i + 1) := by unfold World.iterPos; rw [unhide HI3]
        rw [p3, unhide HPO]
        have h1 := (unhide HQ).2
        have h2 := placeOf_lt2 (unhide HT).cps (show i < cs.length by rw [unhide HN]; exact hlt)
        omega
    · obtain rfl : n = i := by omega
      have HE : Hid (¬ placeOf cs n < s.size) := hide (by rw [(unhide HT).size, ← unhide HN]; unfold placeOf; rw [List.take_of_length_le (Nat.le_refl _)]; omega)
      have hnx := Lib.run_next_end_at (P := Tryd.prog) wr w.heap.size s (placeOf cs n) 0 (unhide HC).it (unhide HE)
      go_wp2_with fail
      go_ret
      exact ⟨_, rfl, by rw [unhide HN]; exact (unhide HC).own, (unhide HC).bel⟩
end Go.Proofs.YtonabfpgdgnpnaaDoor

namespace Go.Proofs.YtonabfpgdgnpnaaDoor
set_option linter.unusedVariables false
set_option linter.unusedSimpArgs false

/-- a code point's bytes, read and written, are what they were -/
theorem enc_at {s : ByteArray} {cs : List (List UInt8)} (h : Tx s cs) {n : Nat} {c : List UInt8} (hc : cs[n]? = some c) : Utf8.encode ((Utf8.decode s (placeOf cs n)).1 : Int) = ⟨c.toArray⟩ := by
  have hn : n < cs.length := (List.getElem?_eq_some_iff.1 hc).1
  have hd := drop_place h n
  have e : cs.drop n = c :: cs.drop (n + 1) := by
    rw [List.drop_eq_getElem_cons hn]
    rw [(List.getElem?_eq_some_iff.1 hc).2]
  have hcp := h.cps c (List.mem_of_getElem? hc)
  rw [← Lib.decodeL_drop, hd, e, List.flatten_cons, hcp.front]
  exact enc_cp hcp

/-- a text out of its code points -/
def txB (q : List (List UInt8)) : ByteArray := ⟨q.flatten.toArray⟩
theorem tx_txB {q : List (List UInt8)} (h : Cps q) : Tx (txB q) q := ⟨h, by simp [txB]⟩
theorem txB_of {s : ByteArray} {q : List (List UInt8)} (h : Tx s q) : txB q = s := by
  apply ByteArray.ext
  apply Array.toList_inj.1
  rw [h.eq]
  simp [txB]
theorem txB_app (q r : List (List UInt8)) : txB q ++ txB r = txB (q ++ r) := by
  apply ByteArray.ext
  apply Array.toList_inj.1
  simp [txB]
theorem txB_nil : txB [] = ByteArray.empty := rfl
theorem txB_size (q : List (List UInt8)) : (txB q).size = q.flatten.length := by simp [txB, ByteArray.size]
theorem txB_zero {q : List (List UInt8)} (h : Cps q) : (txB q).size = 0 ↔ q = [] := by
  rw [txB_size]
  constructor
  · intro e
    cases q with
    | nil => rfl
    | cons c q =>
      have := List.length_pos_iff.2 (h c (List.mem_cons_self ..)).ne
      simp only [List.flatten_cons, List.length_append] at e
      omega
  · rintro rfl; rfl

/-- what becomes of a code point -/
def stp (b : Bool) : At := if b then .d else .k
/-- a wide edit's single steps; those ahead of its end -/
def wAts : List (List (List UInt8)) → List Bool → List At
  | [], _ => []
  | q :: _, [] => q.map .p
  | q :: qs, b :: bs => q.map .p ++ stp b :: wAts qs bs
def wPre : List (List (List UInt8)) → List Bool → List At
  | q :: qs, b :: bs => q.map .p ++ stp b :: wPre qs bs
  | _, _ => []
theorem wAts_snoc : ∀ (P : List (List (List UInt8))) (D : List Bool) (q : List (List UInt8)), P.length = D.length → wAts (P ++ [q]) D = wPre P D ++ q.map .p
  | [], [], q, _ => by simp [wAts, wPre]
  | [], b :: D, q, h => by simp at h
  | r :: P, [], q, h => by simp at h
  | r :: P, b :: D, q, h => by
    simp only [List.cons_append, wAts, wPre, List.append_assoc, List.cons_append]
    rw [wAts_snoc P D q (by simpa using h)]
theorem wPre_snoc : ∀ (P : List (List (List UInt8))) (D : List Bool) (q : List (List UInt8)) (b : Bool), P.length = D.length → wPre (P ++ [q]) (D ++ [b]) = wPre P D ++ (q.map .p ++ [stp b])
  | [], [], q, b, _ => by simp [wPre]
  | [], _ :: D, q, _, h => by simp at h
  | r :: P, [], q, _, h => by simp at h
  | r :: P, b :: D, q, c, h => by
    simp only [List.cons_append, wPre, List.append_assoc, List.cons_append]
    rw [wPre_snoc P D q c (by simpa using h)]
theorem wAts_split : ∀ (i : Nat) (P : List (List (List UInt8))) (D : List Bool), i ≤ D.length → P.length = D.length + 1 → wAts P D = wPre (P.take i) (D.take i) ++ wAts (P.drop i) (D.drop i)
  | 0, P, D, _, _ => by simp [wPre]
  | i + 1, [], D, _, h => by simp at h
  | i + 1, q :: P, [], h, _ => by simp at h
  | i + 1, q :: P, b :: D, h, k => by
    simp only [List.take_succ_cons, List.drop_succ_cons, wAts, wPre, List.append_assoc, List.cons_append]
    rw [wAts_split i P D (by simpa using h) (by simpa using k)]
theorem wPre_take {P : List (List (List UInt8))} {D : List Bool} {i : Nat} {q : List (List UInt8)} {b : Bool} (hq : P[i]? = some q) (hb : D[i]? = some b) : wPre (P.take (i + 1)) (D.take (i + 1)) = wPre (P.take i) (D.take i) ++ (q.map .p ++ [stp b]) := by
  have h1 := (List.getElem?_eq_some_iff.1 hq).1
  have h2 := (List.getElem?_eq_some_iff.1 hb).1
  rw [List.take_add_one, List.take_add_one, hq, hb]
  exact wPre_snoc _ _ _ _ (by rw [List.length_take, List.length_take]; omega)
theorem wAts_drop {P : List (List (List UInt8))} {D : List Bool} {i : Nat} {q : List (List UInt8)} {b : Bool} (hq : P[i]? = some q) (hb : D[i]? = some b) : wAts (P.drop i) (D.drop i) = q.map .p ++ stp b :: wAts (P.drop (i + 1)) (D.drop (i + 1)) := by
  have h1 := (List.getElem?_eq_some_iff.1 hq)
  have h2 := (List.getElem?_eq_some_iff.1 hb)
  rw [List.drop_eq_getElem_cons h1.1, List.drop_eq_getElem_cons h2.1, h1.2, h2.2]
  rfl
theorem wAts_last {P : List (List (List UInt8))} {D : List Bool} {q : List (List UInt8)} (hl : P.length = D.length + 1) (hq : P[D.length]? = some q) : wAts (P.drop D.length) (D.drop D.length) = q.map .p := by
  have h1 := (List.getElem?_eq_some_iff.1 hq)
  rw [List.drop_eq_getElem_cons h1.1, h1.2, List.drop_of_length_le (Nat.le_refl _)]
  rfl
theorem stp_from (b : Bool) (x : List At) : At.fromN (stp b :: x) = At.fromN x + 1 := by cases b <;> rfl
theorem from_mapP (cs : List (List UInt8)) (x : List At) : At.fromN (cs.map .p ++ x) = At.fromN x := by
  induction cs with
  | nil => rfl
  | cons c cs ih => simp only [List.map_cons, List.cons_append, At.fromN, ih]
theorem wAts_from : ∀ (P : List (List (List UInt8))) (D : List Bool), P.length = D.length + 1 → At.fromN (wAts P D) = D.length
  | [], D, h => by simp at h
  | q :: P, [], h => by
    simp only [wAts]
    have := from_mapP q []
    simpa [At.fromN] using this
  | q :: P, b :: D, h => by
    simp only [wAts]
    rw [from_mapP, stp_from, wAts_from P D (by simpa using h)]
    rfl

/-- the loop of spreading out: at this place, so many steps are laid -/
structure SpI (n : Nat) (P : List (List (List UInt8))) (D : List Bool) (at_ : Nat) (x : List At) : Prop where
  pl : P.length = n + 1
  dl : D.length = n
  le : at_ ≤ n
  eq : ∃ q, P[at_]? = some q ∧ wPre (P.take at_) (D.take at_) ++ q.map .p = x
  emp : ∀ i, at_ < i → i ≤ n → P[i]? = some []
  cps : ∀ q ∈ P, Cps q
theorem SpI.start (n : Nat) : SpI n (List.replicate (n + 1) []) (List.replicate n false) 0 [] :=
  ⟨by simp, by simp, by omega, ⟨[], by simp, by simp [wPre]⟩, fun i _ h => by rw [List.getElem?_replicate, if_pos (by omega)], fun q hq => by rw [List.eq_of_mem_replicate hq]; exact Cps.nil⟩
theorem take_set_le {α : Type} (l : List α) (i : Nat) (v : α) : (l.set i v).take i = l.take i := by
  induction l generalizing i with
  | nil => simp
  | cons a l ih => cases i with
    | zero => simp
    | succ i => simp [ih]
theorem SpI.put {n : Nat} {P : List (List (List UInt8))} {D : List Bool} {at_ : Nat} {x : List At} (h : SpI n P D at_ x) {q cs : List (List UInt8)} (hq : P[at_]? = some q) (hc : Cps cs) : SpI n (P.set at_ (q ++ cs)) D at_ (x ++ cs.map .p) := by
  obtain ⟨q', h1, h2⟩ := h.eq
  obtain rfl : q = q' := by rw [hq] at h1; exact Option.some.inj h1
  have hlt := (List.getElem?_eq_some_iff.1 hq).1
  refine ⟨by rw [List.length_set]; exact h.pl, h.dl, h.le, ⟨q ++ cs, by simp [hlt], ?_⟩, fun i h3 h4 => ?_, fun r hr => ?_⟩
  · rw [take_set_le, List.map_append, ← List.append_assoc, h2]
  · rw [List.getElem?_set_ne (by omega)]; exact h.emp i h3 h4
  · rcases List.mem_or_eq_of_mem_set hr with hr | rfl
    · exact h.cps r hr
    · exact (h.cps q (List.mem_of_getElem? hq)).append hc
theorem SpI.step {n : Nat} {P : List (List (List UInt8))} {D : List Bool} {at_ : Nat} {x : List At} (h : SpI n P D at_ x) (ha : at_ < n) (b : Bool) : SpI n P (D.set at_ b) (at_ + 1) (x ++ [stp b]) := by
  obtain ⟨q, h1, h2⟩ := h.eq
  refine ⟨h.pl, by rw [List.length_set]; exact h.dl, by omega, ⟨[], h.emp _ (by omega) (by omega), ?_⟩, fun i h3 h4 => h.emp i (by omega) h4, h.cps⟩
  rw [wPre_take (b := b) h1 (by simp [h.dl, ha]), take_set_le, ← h2]
  simp
theorem SpI.done {n : Nat} {P : List (List (List UInt8))} {D : List Bool} {x : List At} (h : SpI n P D n x) : wAts P D = x := by
  obtain ⟨q, h1, h2⟩ := h.eq
  rw [wAts_split n P D (by rw [h.dl]; exact Nat.le_refl _) (by rw [h.pl, h.dl])]
  have := wAts_last (P := P) (D := D) (by rw [h.pl, h.dl]) (by rw [h.dl]; exact h1)
  rw [h.dl] at this
  rw [this, h2]
/-- the one that a code point makes, or none -/
def kp {α : Type} (b : Bool) (c : α) : List α := if b then [] else [c]
theorem appW_map (q : List (List UInt8)) (x : List At) (s : List (List UInt8)) : At.app (q.map .p ++ x) s = q ++ At.app x s := by
  induction q with
  | nil => rfl
  | cons c q ih => simp only [List.map_cons, List.cons_append, At.app, ih]
theorem appW_step (q : List (List UInt8)) (b : Bool) (x : List At) (c : List UInt8) (s : List (List UInt8)) : At.app (q.map .p ++ stp b :: x) (c :: s) = q ++ (kp b c ++ At.app x s) := by
  rw [appW_map]
  cases b <;> simp [stp, kp, At.app]
theorem appW_end (q : List (List UInt8)) : At.app (q.map .p) [] = q := by
  have := appW_map q [] []
  simpa [At.app] using this
/-- one edit as it is behind another one: the first, or the second -/
def mt (f : Bool) (u v : List At) : List At := if f then At.one u v else At.two v u
theorem oneW_l (q : List (List UInt8)) (x y : List At) : At.one (q.map .p ++ x) y = q.map .p ++ At.one x y := by
  induction q with
  | nil => rfl
  | cons c q ih => simp only [List.map_cons, List.cons_append, At.one, ih]
theorem oneW_r (r : List (List UInt8)) (x y : List At) (hx : x = [] ∨ ∃ b z, x = stp b :: z) : At.one x (r.map .p ++ y) = List.replicate r.length .k ++ At.one x y := by
  induction r with
  | nil => rfl
  | cons c r ih =>
    rcases hx with rfl | ⟨b, z, rfl⟩
    · simp only [List.map_cons, List.cons_append, At.one, List.length_cons, List.replicate_succ]; rw [ih]
    · cases b
      · simp only [stp, Bool.false_eq_true, ↓reduceIte, List.map_cons, List.cons_append, At.one, List.length_cons, List.replicate_succ] at *; rw [ih]
      · simp only [stp, ↓reduceIte, List.map_cons, List.cons_append, At.one, List.length_cons, List.replicate_succ] at *; rw [ih]
theorem twoW_l (q : List (List UInt8)) (x y : List At) : At.two (q.map .p ++ x) y = List.replicate q.length .k ++ At.two x y := by
  induction q with
  | nil => rfl
  | cons c q ih => simp only [List.map_cons, List.cons_append, At.two, ih, List.length_cons, List.replicate_succ]
theorem twoW_r (r : List (List UInt8)) (x y : List At) (hx : x = [] ∨ ∃ b z, x = stp b :: z) : At.two x (r.map .p ++ y) = r.map .p ++ At.two x y := by
  induction r with
  | nil => rfl
  | cons c r ih =>
    rcases hx with rfl | ⟨b, z, rfl⟩
    · simp only [List.map_cons, List.cons_append, At.two, List.length_cons, List.replicate_succ]; rw [ih]
    · cases b
      · simp only [stp, Bool.false_eq_true, ↓reduceIte, List.map_cons, List.cons_append, At.two, List.length_cons, List.replicate_succ] at *; rw [ih]
      · simp only [stp, ↓reduceIte, List.map_cons, List.cons_append, At.two, List.length_cons, List.replicate_succ] at *; rw [ih]
/-- what is put of the one, and what is kept of what the other puts -/
def mtP (f : Bool) (q r : List (List UInt8)) : List At := if f then q.map .p ++ List.replicate r.length .k else List.replicate r.length .k ++ q.map .p
theorem mt_step (f : Bool) (q r : List (List UInt8)) (b c : Bool) (x y : List At) : mt f (q.map .p ++ stp b :: x) (r.map .p ++ stp c :: y) = mtP f q r ++ (kp c (stp b) ++ mt f x y) := by
  cases f
  · simp only [mt, mtP, Bool.false_eq_true, ↓reduceIte]
    rw [twoW_l, twoW_r _ _ _ (.inr ⟨_, _, rfl⟩)]
    cases b <;> cases c <;> simp [stp, kp, At.two]
  · simp only [mt, mtP, ↓reduceIte]
    rw [oneW_l, oneW_r _ _ _ (.inr ⟨_, _, rfl⟩)]
    cases b <;> cases c <;> simp [stp, kp, At.one]
theorem mt_end (f : Bool) (q r : List (List UInt8)) : mt f (q.map .p) (r.map .p) = mtP f q r := by
  cases f
  · simp only [mt, mtP, Bool.false_eq_true, ↓reduceIte]
    have h1 := twoW_l r [] (q.map .p)
    have h2 := twoW_r q [] [] (.inl rfl)
    rw [List.append_nil] at h1 h2
    rw [h1, h2]
    simp [At.two]
  · simp only [mt, mtP, ↓reduceIte]
    have h1 := oneW_l q [] (r.map .p)
    have h2 := oneW_r r [] [] (.inl rfl)
    rw [List.append_nil] at h1 h2
    rw [h1, h2]
    simp [At.one]
/-- a wide edit that grows at its end -/
theorem wAts_next {P : List (List (List UInt8))} {D : List Bool} (h : P.length = D.length + 1) (b : Bool) : wAts (P ++ [[]]) (D ++ [b]) = wAts P D ++ [stp b] := by
  rcases List.eq_nil_or_concat P with rfl | ⟨P', q, rfl⟩
  · simp at h
  · rw [List.concat_eq_append] at h ⊢
    have hl : P'.length = D.length := by simpa using h
    rw [wAts_snoc (P' ++ [q]) (D ++ [b]) [] (by simp [hl]), wPre_snoc _ _ _ _ hl, wAts_snoc _ _ _ hl]
    simp
theorem wAts_more {P : List (List (List UInt8))} {D : List Bool} {q r : List (List UInt8)} (h : P.length = D.length) : wAts (P ++ [q ++ r]) D = wAts (P ++ [q]) D ++ r.map .p := by
  rw [wAts_snoc _ _ _ h, wAts_snoc _ _ _ h, List.map_append, List.append_assoc]
end Go.Proofs.YtonabfpgdgnpnaaDoor
