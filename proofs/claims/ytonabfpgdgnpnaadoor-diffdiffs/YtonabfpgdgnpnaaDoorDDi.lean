/- The document's Diff; DiffDiffs. -/
import Derived.Test.YtonabfpgdgnpnaaDoorDRw
import Derived.Test.YtonabfpgdgnpnaaDoorDB
import Derived.Test.YtonabfpgdgnpnaaDoorSam
import Derived.Test.YtonabfpgdgnpnaaDoorRnm
import Derived.Test.YtonabfpgdgnpnaaDoorDA
namespace Go.Proofs.YtonabfpgdgnpnaaDoor
set_option linter.unusedVariables false
set_option linter.unusedSimpArgs false
open Go.ChangeShapes Go.WideShapes Go.ChangeAt Go.RowKit Go.Joins Go.Deep

/-- what the document's walk has made so far -/
structure RW (w wr : World) (Ba Bb Bv : Nat) (va vb vt ov : Value) (x y : List CP) (vs : List Value) (X : List (List Nat)) (i j : Nat) (L : List Pt) : Prop where
  a : wr.ownsRow Ba 21 1 va x.length (rnv x)
  b : wr.ownsRow Bb 21 1 vb y.length (rnv y)
  rr : RR wr Bv vt vs X
  out : OwnP wr w.heap.size ov L
  eq : atomsL (L.filter fitsB) ++ leadA (x.drop i) (y.drop j) = leadA x y
  len : L.length ≤ i + j
  txt : sumT L ≤ 4 * j
  bel : Below w.heap.size w wr
theorem RW.call {w wr wr' : World} {Ba Bb Bv : Nat} {va vb vt ov : Value} {x y : List CP} {vs : List Value} {X : List (List Nat)} {i j : Nat} {L : List Pt} (h : RW w wr Ba Bb Bv va vb vt ov x y vs X i j L) (hb : Below wr.heap.size wr wr') : RW w wr' Ba Bb Bv va vb vt ov x y vs X i j L :=
  ⟨own_call h.a hb, own_call h.b hb, h.rr.call hb, own_call h.out hb, h.eq, h.len, h.txt, h.bel.trans (hb.mono h.bel.size)⟩
theorem RW.step {w wr w2 w3 : World} {Ba Bb Bv : Nat} {va vb vt ov v' : Value} {x y : List CP} {vs : List Value} {X : List (List Nat)} {i j i' j' : Nat} {L : List Pt} {p : Pt} (h : RW w wr Ba Bb Bv va vb vt ov x y vs X i j L) (hal : Below wr.heap.size wr w2) (hg : w2.grownBy w3 ov.ownBlock) (ho : w3.ownsRow w.heap.size 39 3 v' (L.length + 1) (ptc L ++ ptc [p]))
    (he : atomsL ([p].filter fitsB) ++ leadA (x.drop i') (y.drop j') = leadA (x.drop i) (y.drop j)) (hl : i + j + 1 ≤ i' + j') (ht : 4 * j + p.text.size ≤ 4 * j') : RW w w3 Ba Bb Bv va vb vt v' x y vs X i' j' (L ++ [p]) := by
  have o3 := grown_only hg
  have hO : w2.ownsRow w.heap.size 39 3 ov L.length (ptc L) := own_call h.out hal
  have ha := own_call h.a hal
  have hb := own_call h.b hal
  have hr := h.rr.call hal
  have hB := h.bel.trans (hal.mono h.bel.size)
  refine ⟨own_only ha o3 (fun q hq hp => own_ne ha hO (by decide) q hq hp), own_only hb o3 (fun q hq hp => own_ne hb hO (by decide) q hq hp), ⟨own_only hr.own o3 (fun q hq hp => own_ne hr.own hO (by decide) q hq hp), fun k u z h1 h2 => ?_⟩, OwnP.app (m := [p]) ho, ?_, ?_, ?_, hB.trans (o3.below hB.size (fun q hq => (hO.lt q hq).1))⟩
  · have h3 := hr.each k u z h1 h2
    exact own_only h3 o3 (fun q hq hp => own_ne h3 hO (by decide) q hq hp)
  · rw [List.filter_append, atomsL_append, List.append_assoc, he, h.eq]
  · rw [List.length_append]
    have := h.len
    simp
    omega
  · rw [sumT_app]
    have := h.txt
    omega
set_option maxRecDepth 100000 in
set_option maxHeartbeats 4000000 in
theorem rdiff_any (a b : ByteArray) (w : World) (hsa : a.size ≤ 1099511627776) (hsb : b.size ≤ 1099511627776) : Calls Tryd.prog 14 #[.string a, .string b] w fun r w' => DiffR a b w r w' := by
  have bP : Below w.heap.size w (w.alloc (.cells #[.string a, .string b] 9)) := (Below.refl _ _).alloc (Nat.le_refl _) _
  have KR := hide (rall_any w.heap.size (.slice (some ⟨w.heap.size, 0, none⟩) 2 2) [a, b] (w.alloc (.cells #[.string a, .string b] 9)) (own_row (RowAt.new w 9 [.string a, .string b]) (Nat.le_refl _) (by show 2 ≤ maxLen; unfold maxLen; omega)) (by simp) (by simp only [List.mem_cons, List.not_mem_nil, or_false]; rintro s (rfl | rfl) <;> assumption))
  have B1 := hide bP
  obtain ⟨w1, hw1⟩ : ∃ z, w.alloc (.cells #[.string a, .string b] 9) = z := ⟨_, rfl⟩
  have HW1 := hide hw1
  rw [hw1] at KR B1
  clear bP hw1
  obtain ⟨e, he⟩ : ∃ z, firstE [a, b] = z := ⟨_, rfl⟩
  have HE := hide he
  rw [he] at KR
  clear he
  go_enter Tryd.func14, Tryd.ntmps14
  go_wp2_with fail
  try rw [unhide HW1]
  clear HW1
  refine Calls.mono (unhide KR) ?_
  rintro r w2 ⟨rfl, b2⟩
  have B2 := hide ((unhide B1).trans (b2.mono (unhide B1).size))
  clear b2 KR
  by_cases hf : e = 0
  rotate_left
  · have he0 : (e != 0) = true := by simp [hf]
    have HF := hide hf
    clear hf
    go_wp2_with fail
    go_ret2
    exact ⟨.inl ⟨by rw [unhide HE]; exact unhide HF, by rw [unhide HE]; rfl⟩, unhide B2⟩
  subst hf
  obtain ⟨x, hx, hxl⟩ := chk_ok (first_ok (unhide HE) a (by simp))
  obtain ⟨y, hy, hyl⟩ := chk_ok (first_ok (unhide HE) b (by simp))
  have HX := hide (And.intro hx (And.intro hy (And.intro hxl hyl)))
  have K2 := hide (rchars_any a w2 hsa)
  clear hx hy hxl hyl
  go_wp2_with fail
  refine Calls.mono (unhide K2) ?_
  rintro r w3 h3
  obtain ⟨va, n1, l1, rfl, ho1, hl1, _, b3⟩ := h3
  obtain ⟨e1, e2⟩ := hl1 x (unhide HX).1
  subst e1 e2
  have HO1 := hide ho1
  have B3 := hide ((unhide B2).trans (b3.mono (unhide B2).size))
  have K3 := hide (rchars_any b w3 hsb)
  clear ho1 hl1 b3 K2
  go_wp2_with fail
  refine Calls.mono (unhide K3) ?_
  rintro r w4 h4
  obtain ⟨vb, n2, l2, rfl, ho2, hl2, _, b4⟩ := h4
  obtain ⟨e1, e2⟩ := hl2 y (unhide HX).2.1
  subst e1 e2
  have B4 := hide ((unhide B3).trans (b4.mono (unhide B3).size))
  have HO2 := hide ho2
  have HO1 := hide (own_call (unhide HO1) b4)
  have K4 := hide (rrows_any _ _ va vb x y w4 (unhide HX).1.cps (unhide HX).2.1.cps (unhide HO1) ho2 (unhide HX).2.2.1 (unhide HX).2.2.2)
  clear ho2 hl2 b4 K3
  go_wp2_with fail
  refine Calls.mono (unhide K4) ?_
  rintro r w5 h5
  obtain ⟨v, vs, X, rfl, hRR, hTX, b5⟩ := h5
  have B5 := hide ((unhide B4).trans (b5.mono (unhide B4).size))
  have HL0 := hide (RW.mk (ov := .slice none 0 0) (i := 0) (j := 0) (L := []) (own_call (unhide HO1) b5) (own_call (unhide HO2) b5) hRR (OwnP.nil _ _) (by simp [atomsL]) (by simp) (by simp [sumT]) (unhide B5))
  have HTX := hide hTX
  obtain ⟨aa, ca, rfl, hca1, hca2⟩ := own_sl (unhide HO1)
  obtain ⟨ab, cb, rfl, hcb1, hcb2⟩ := own_sl (unhide HO2)
  obtain ⟨n, hn⟩ : ∃ z, x.length = z := ⟨_, rfl⟩
  obtain ⟨m, hm⟩ : ∃ z, y.length = z := ⟨_, rfl⟩
  have HN := hide hn
  have HM := hide hm
  have hnb : n ≤ 1024 := by rw [← hn]; exact (unhide HX).2.2.1
  have hmb : m ≤ 1024 := by rw [← hm]; exact (unhide HX).2.2.2
  obtain ⟨N2, hN2⟩ : ∃ z, n + m = z := ⟨_, rfl⟩
  have hN2I : (n : Int) + (m : Int) = (N2 : Int) := by omega
  rw [hn] at hca1 HL0 ⊢
  rw [hm] at hcb1 HL0 ⊢
  clear hRR hTX b5 HO1 HO2 hn hm K4
  generalize hBa : w2.heap.size = Ba at HL0
  generalize hBb : w3.heap.size = Bb at HL0
  generalize hBv : w4.heap.size = Bv at HL0
  clear hBa hBb hBv
  go_wp2_with fail
  go_loopw [10, 11, 12, 32] (fun ov iv jv sv wr => ∃ (s i j : Nat) (a2 : Option Addr) (c2 : Nat) (L : List Pt), s ≤ N2 ∧ i ≤ n ∧ j ≤ m ∧ sv = .int .i64 (s : Int) ∧ iv = .int .i64 (i : Int) ∧ jv = .int .i64 (j : Int) ∧ (s ≤ i + j ∨ (i = n ∧ j = m)) ∧ ov = .slice a2 L.length c2 ∧ Hid (RW w wr Ba Bb Bv (.slice aa n ca) (.slice ab m cb) v (.slice a2 L.length c2) x y vs X i j L)) (fun _ _ _ sv _ => ((N2 : Int) - intOf sv).toNat)
  case atStart => exact ⟨0, 0, 0, none, 0, [], by omega, by omega, by omega, by simp, by simp, by simp, by omega, rfl, HL0⟩
  case round =>
    clear HL0
    obtain ⟨s, i, j, a2, c2, L, hs2, hi, hj, rfl, rfl, rfl, hsij, rfl, HL⟩ := hrel
    have HSIJ := hide hsij
    clear hsij
    have hll := (unhide HL).len
    obtain ⟨q, hq⟩ : ∃ z, L.length = z := ⟨_, rfl⟩
    have HLQ := hide hq
    rw [hq] at HL hll ⊢
    clear hq
    have i0 : (0 : Int) ≤ (i : Int) := by omega
    have j0 : (0 : Int) ≤ (j : Int) := by omega
    have HBw := hide (Below.refl wr.heap.size wr)
    by_cases c1 : (s : Int) < (N2 : Int)
    · by_cases ci : i < n
      · obtain ⟨c, hc⟩ : ∃ z, x[i]? = some z := ⟨_, List.getElem?_eq_getElem (by rw [unhide HN]; omega)⟩
        have hin : (i : Int) < (n : Int) := by omega
        have hne1 : decide (i = n) = false := decide_eq_false (by omega)
        have hne2 : ¬ i = n := by omega
        by_cases cj : j < m
        · obtain ⟨d, hd⟩ : ∃ z, y[j]? = some z := ⟨_, List.getElem?_eq_getElem (by rw [unhide HM]; omega)⟩
          have hjm : (j : Int) < (m : Int) := by omega
          have hje : ¬ j = m := by omega
          have hje2 : ((j : Int) == (m : Int)) = false := by simp; omega
          have hje3 : decide ((j : Int) = (m : Int)) = false := decide_eq_false (by omega)
          have hje4 : decide (j = m) = false := decide_eq_false hje
          have hje5 : (j == m) = false := by simp [hje]
          obtain ⟨ga, ca2, e, hca, _⟩ := own_rd (unhide HL).a (rnv_at hc)
          injection e with e1 e2 e3
          clear e2
          subst e1 e3
          obtain ⟨gb, cb2, e, hcb, _⟩ := own_rd (unhide HL).b (rnv_at hd)
          injection e with e1 e2 e3
          clear e2
          subst e1 e3
          by_cases hcd : c = d
          · subst hcd
            have HK := hide (lead_keep hc hd)
            obtain ⟨z, hz⟩ : ∃ z : Int, (rn c : Int) = z := ⟨_, rfl⟩
            rw [hz] at hca hcb
            clear hc hd hz
            go_wp2_with fail
            go_quiet (fail)
            have BD := hide (Go.Joins.below_draws wr.heap.size wr nq)
            have HBw := hide ((unhide HBw).trans ((unhide BD).mono (unhide HBw).size))
            have hca := kept (unhide BD) hca
            have hcb := kept (unhide BD) hcb
            obtain ⟨ws, hws⟩ : ∃ z, wr.drewN nq = z := ⟨_, rfl⟩
            rw [hws] at HBw hca hcb ⊢
            clear hws BD
            have hal : Below ws.heap.size ws (ws.alloc (.cells #[.int .i64 1, .int .i64 1, .string ⟨#[]⟩] 39)) := (Below.refl _ _).alloc (Nat.le_refl _) _
            have HAL := hide ((unhide HBw).trans (hal.mono (unhide HBw).size))
            have HS2 : Hid ((ws.alloc (.cells #[.int .i64 1, .int .i64 1, .string ⟨#[]⟩] 39)).ownsRow w.heap.size 39 3 (.slice a2 q c2) q (ptc L)) := hide (by have h9 := own_call (unhide HL).out (unhide HAL); rw [unhide HLQ] at h9; exact h9)
            have HB2 := hide ((unhide HL).bel.trans ((unhide HAL).mono (unhide HL).bel.size))
            have HC2 := hide (RowAt.new ws 39 [.int .i64 1, .int .i64 1, .string ⟨#[]⟩])
            clear hal
            go_wp2_with (at_builtin; refine unhide ?_)
            obtain ⟨i9, hi9, hz9, hs9, hb9⟩ := info_parts infoPt
            refine hide ?_
            refine wpList_append_own_at _ rfl _ _ 24 rfl w.heap.size 39 i9 (.agg #[.int .i64 0, .int .i64 0, .string ⟨#[]⟩]) 3 32 Tryd.underlying24 hi9 hz9 hs9 hb9 rfl (by decide) (.slice a2 q c2) q (ptc L) rfl (unhide HS2) ⟨ws.heap.size, 0, none⟩ 1 1 [.int .i64 1, .int .i64 1, .string ⟨#[]⟩] rfl rfl (fun j u hj => by
              have h9 := (unhide HC2).cell j
              rw [hj] at h9
              rw [Addr.add_lit, Nat.zero_add]
              exact h9) (fun u hu => by
              simp only [List.mem_cons, List.not_mem_nil, or_false] at hu
              rcases hu with rfl | rfl | rfl <;> rfl) (by unfold maxLen; omega) (by omega) (unhide HB2).size ?_
            intro v' w3 ho hg _ _
            obtain ⟨a4, c4, rfl, _, _⟩ := own_sl3 ho
            have HL2 := hide ((unhide HL).step (i' := i + 1) (j' := j + 1) (p := ⟨1, 1, ⟨#[]⟩⟩) (unhide HAL) hg (by rw [unhide HLQ]; exact ho) (by rw [one_k 1 (by omega), unhide HK]; rfl) (by omega) (by show 4 * j + 0 ≤ 4 * (j + 1); omega))
            clear ho hg HL HS2 HB2 HC2 HAL HBw i9 hi9 hz9 hs9 hb9
            go_wp2_with fail
            have hl9 : (L ++ [(⟨1, 1, ⟨#[]⟩⟩ : Pt)]).length = q + 1 := by rw [List.length_append, unhide HLQ]; rfl
            exact ⟨⟨s + 1, i + 1, j + 1, a4, c4, _, by omega, by omega, by omega, by simp, by first | (simp; done) | (simp; omega), by first | (simp; done) | (simp; omega), by have h9 := unhide HSIJ; omega, by rw [hl9], by rw [hl9]; exact HL2⟩, by simp [intOf]; omega⟩
          · have hsm : sameB x y i j = false := by unfold sameB; rw [hc, hd]; simp [hcd]
            have hzz : ((rn c : Int) == (rn d : Int)) = false := by rw [rn_eq ((unhide HX).1.cps _ (List.mem_of_getElem? hc)) ((unhide HX).2.1.cps _ (List.mem_of_getElem? hd))]; simp [hcd]
            obtain ⟨i1, hi1⟩ : ∃ z, i + 1 = z := ⟨_, rfl⟩
            obtain ⟨j1, hj1⟩ : ∃ z, j + 1 = z := ⟨_, rfl⟩
            have hi1I : (i : Int) + 1 = (i1 : Int) := by omega
            have hj1I : (j : Int) + 1 = (j1 : Int) := by omega
            have i10 : (0 : Int) ≤ (i1 : Int) := by omega
            have j10 : (0 : Int) ≤ (j1 : Int) := by omega
            have hwi1 : IntKind.i64.wrap (i1 : Int) = (i1 : Int) := by rw [IntKind.wrap_i64] <;> omega
            have hwj1 : IntKind.i64.wrap (j1 : Int) = (j1 : Int) := by rw [IntKind.wrap_i64] <;> omega
            have hX1 := (unhide HTX).2 i1 (by rw [unhide HN]; omega)
            have hX0 := (unhide HTX).2 i (by rw [unhide HN]; omega)
            obtain ⟨u1, hu1, hul1⟩ := (unhide HL).rr.at_ hX1
            obtain ⟨u0, hu0, hul0⟩ := (unhide HL).rr.at_ hX0
            rw [lrow_len, unhide HM] at hul1 hul0
            obtain ⟨gv, cv, e, hv1, hv1n, _, _⟩ := own_rd (unhide HL).rr.own hu1
            subst e
            have hv0 := row_cell (unhide HL).rr.own hu0
            have hv0n : i < X.length := by omega
            obtain ⟨gl1, cl1, e, _, _, _, _⟩ := own_rd hul1 (nsv_get (lrow_at (Nat.zero_le _)))
            subst e
            obtain ⟨gl0, cl0, e, _, _, _, _⟩ := own_rd hul0 (nsv_get (lrow_at (Nat.zero_le _)))
            subst e
            have hl1 := row_cell hul1 (nsv_get (lrow_at (x := x) (y := y) (p := 0 + i1) (j := j) (by rw [unhide HM]; omega)))
            have hl0 := row_cell hul0 (nsv_get (lrow_at (x := x) (y := y) (p := 0 + i) (j := j1) (by rw [unhide HM]; omega)))
            rw [Nat.zero_add] at hl1 hl0
            obtain ⟨P1, hP1⟩ : ∃ z, lcs (x.drop i1) (y.drop j) = z := ⟨_, rfl⟩
            obtain ⟨P0, hP0⟩ : ∃ z, lcs (x.drop i) (y.drop j1) = z := ⟨_, rfl⟩
            rw [hP1] at hl1
            rw [hP0] at hl0
            obtain ⟨m1, hm1⟩ : ∃ z, m + 1 = z := ⟨_, rfl⟩
            rw [hm1] at hv1 hv0
            have i1X : (i1 : Int) < (X.length : Int) := by omega
            have iX : (i : Int) < (X.length : Int) := by omega
            have jm1 : (j : Int) < (m1 : Int) := by omega
            have j1m1 : (j1 : Int) < (m1 : Int) := by omega
            have HCD := hide (And.intro hc hd)
            by_cases hcmp : P0 ≤ P1
            · have hcmpI : (P0 : Int) ≤ (P1 : Int) := by omega
              have hk := (lead_drop hsm (by unfold dropB; rw [hi1, hj1, hP1, hP0]; simp; exact .inr ⟨by rw [unhide HN]; exact ci, hcmp⟩) (.inl (by rw [unhide HN]; exact ci)) (by rw [unhide HM]; exact hj)).2
              have HK := hide hk
              have HZZ := hide hsm
              obtain ⟨z, hz⟩ : ∃ z : Int, (rn c : Int) = z := ⟨_, rfl⟩
              obtain ⟨z2, hz2⟩ : ∃ z : Int, (rn d : Int) = z := ⟨_, rfl⟩
              rw [hz, hz2] at hzz
              rw [hz] at hca
              rw [hz2] at hcb
              clear hk hsm hX1 hX0 hu1 hu0 hul1 hul0 hP1 hP0 hm1 hc hd hi1 hj1 hcd hz hz2 hv1n hv0n
              go_wp2_with fail
              go_quiet (fail)
              have BD := hide (Go.Joins.below_draws wr.heap.size wr nq)
              have HBw := hide ((unhide HBw).trans ((unhide BD).mono (unhide HBw).size))
              have hca := kept (unhide BD) hca
              have hcb := kept (unhide BD) hcb
              have hv1 := kept (unhide BD) hv1
              have hv0 := kept (unhide BD) hv0
              have hl1 := kept (unhide BD) hl1
              have hl0 := kept (unhide BD) hl0
              obtain ⟨wu, hws⟩ : ∃ z, wr.drewN nq = z := ⟨_, rfl⟩
              rw [hws] at HBw hca hcb hv1 hv0 hl1 hl0 ⊢
              clear hws BD
              go_wp2_with fail
              go_quiet (fail)
              have BD := hide (Go.Joins.below_draws wu.heap.size wu nq)
              have HBw := hide ((unhide HBw).trans ((unhide BD).mono (unhide HBw).size))
              have hv1 := kept (unhide BD) hv1
              have hv0 := kept (unhide BD) hv0
              have hl1 := kept (unhide BD) hl1
              have hl0 := kept (unhide BD) hl0
              obtain ⟨ws, hws⟩ : ∃ z, wu.drewN nq = z := ⟨_, rfl⟩
              rw [hws] at HBw hv1 hv0 hl1 hl0 ⊢
              clear hws BD
              have hal : Below ws.heap.size ws (ws.alloc (.cells #[.int .i64 3, .int .i64 1, .string ⟨#[]⟩] 39)) := (Below.refl _ _).alloc (Nat.le_refl _) _
              have HAL := hide ((unhide HBw).trans (hal.mono (unhide HBw).size))
              have HS2 : Hid ((ws.alloc (.cells #[.int .i64 3, .int .i64 1, .string ⟨#[]⟩] 39)).ownsRow w.heap.size 39 3 (.slice a2 q c2) q (ptc L)) := hide (by have h9 := own_call (unhide HL).out (unhide HAL); rw [unhide HLQ] at h9; exact h9)
              have HB2 := hide ((unhide HL).bel.trans ((unhide HAL).mono (unhide HL).bel.size))
              have HC2 := hide (RowAt.new ws 39 [.int .i64 3, .int .i64 1, .string ⟨#[]⟩])
              clear hal
              go_wp2_with (at_builtin; refine unhide ?_)
              obtain ⟨i9, hi9, hz9, hs9, hb9⟩ := info_parts infoPt
              refine hide ?_
              refine wpList_append_own_at _ rfl _ _ 24 rfl w.heap.size 39 i9 (.agg #[.int .i64 0, .int .i64 0, .string ⟨#[]⟩]) 3 32 Tryd.underlying24 hi9 hz9 hs9 hb9 rfl (by decide) (.slice a2 q c2) q (ptc L) rfl (unhide HS2) ⟨ws.heap.size, 0, none⟩ 1 1 [.int .i64 3, .int .i64 1, .string ⟨#[]⟩] rfl rfl (fun j u hj => by
                have h9 := (unhide HC2).cell j
                rw [hj] at h9
                rw [Addr.add_lit, Nat.zero_add]
                exact h9) (fun u hu => by
                simp only [List.mem_cons, List.not_mem_nil, or_false] at hu
                rcases hu with rfl | rfl | rfl <;> rfl) (by unfold maxLen; omega) (by omega) (unhide HB2).size ?_
              intro v' w3 ho hg _ _
              obtain ⟨a4, c4, rfl, _, _⟩ := own_sl3 ho
              have HL2 := hide ((unhide HL).step (i' := i + 1) (j' := j) (p := ⟨3, 1, ⟨#[]⟩⟩) (unhide HAL) hg (by rw [unhide HLQ]; exact ho) (by rw [one_d 1 (by omega), unhide HK]; rfl) (by omega) (by show 4 * j + 0 ≤ 4 * j; omega))
              clear ho hg HL HS2 HB2 HC2 HAL HBw i9 hi9 hz9 hs9 hb9
              go_wp2_with fail
              have hl9 : (L ++ [(⟨3, 1, ⟨#[]⟩⟩ : Pt)]).length = q + 1 := by rw [List.length_append, unhide HLQ]; rfl
              exact ⟨⟨s + 1, i + 1, j, a4, c4, _, by omega, by omega, by omega, by simp, by first | (simp; done) | (simp; omega), by first | (simp; done) | (simp; omega), by have h9 := unhide HSIJ; omega, by rw [hl9], by rw [hl9]; exact HL2⟩, by simp [intOf]; omega⟩
            · have hcmpI : ¬ (P0 : Int) ≤ (P1 : Int) := by omega
              obtain ⟨d9, hd9, hk⟩ := lead_put hsm (by unfold dropB; rw [hi1, hj1, hP1, hP0]; simp; exact ⟨by rw [unhide HM]; exact hje, fun _ => by omega⟩) (by rw [unhide HN]; exact hi) (by rw [unhide HM]; exact hj)
              obtain rfl : d = d9 := by rw [hd] at hd9; injection hd9
              have HK := hide hk
              obtain ⟨z, hz⟩ : ∃ z : Int, (rn c : Int) = z := ⟨_, rfl⟩
              rw [hz] at hzz hca
              have hcd := (unhide HX).2.1.cps _ (List.mem_of_getElem? hd)
              have henc := enc_cp hcd
              obtain ⟨z2, hz2⟩ : ∃ z : Int, (rn d : Int) = z := ⟨_, rfl⟩
              have henc2 : Utf8.encode z2 = ⟨d.toArray⟩ := by rw [← hz2]; exact henc
              rw [hz2] at hcb
              obtain ⟨S, hS⟩ : ∃ S : ByteArray, (⟨d.toArray⟩ : ByteArray) = S := ⟨_, rfl⟩
              rw [hS] at henc2
              have hcv : ∀ W, (convert 21 9 (.int .i32 z2)).run Tryd.prog W = .ok (.string S) W := fun W => by rw [← henc2]; rfl
              have hSt : Tx S [d] := by rw [← hS]; exact ⟨fun c hc => by rw [List.mem_singleton] at hc; rw [hc]; exact hcd, by simp⟩
              have HST := hide hSt
              have hSs : S.size ≤ 4 := by rw [← hS]; show d.toArray.size ≤ 4; rw [List.size_toArray]; exact hcd.four
              rw [hz2] at hzz
              try clear hk
              try clear hsm
              try clear hX1
              try clear hX0
              try clear hu1
              try clear hu0
              try clear hul1
              try clear hul0
              try clear hP1
              try clear hP0
              try clear hm1
              try clear hc
              try clear hd9
              try clear hd
              try clear hi1
              try clear hj1
              try clear hcd
              try clear hz
              try clear hv1n
              try clear hv0n
              try clear henc
              try clear hz2
              try clear henc2
              try clear hS
              try clear hSt
              go_wp2_with fail
              go_quiet (fail)
              have BD := hide (Go.Joins.below_draws wr.heap.size wr nq)
              have HBw := hide ((unhide HBw).trans ((unhide BD).mono (unhide HBw).size))
              have hca := kept (unhide BD) hca
              have hcb := kept (unhide BD) hcb
              have hv1 := kept (unhide BD) hv1
              have hv0 := kept (unhide BD) hv0
              have hl1 := kept (unhide BD) hl1
              have hl0 := kept (unhide BD) hl0
              obtain ⟨wu, hws⟩ : ∃ z, wr.drewN nq = z := ⟨_, rfl⟩
              rw [hws] at HBw hca hcb hv1 hv0 hl1 hl0 ⊢
              clear hws BD
              go_wp2_with fail
              go_quiet (fail)
              have BD := hide (Go.Joins.below_draws wu.heap.size wu nq)
              have HBw := hide ((unhide HBw).trans ((unhide BD).mono (unhide HBw).size))
              have hcb := kept (unhide BD) hcb
              have hv1 := kept (unhide BD) hv1
              have hv0 := kept (unhide BD) hv0
              have hl1 := kept (unhide BD) hl1
              have hl0 := kept (unhide BD) hl0
              obtain ⟨ws, hws⟩ : ∃ z, wu.drewN nq = z := ⟨_, rfl⟩
              rw [hws] at HBw hcb hv1 hv0 hl1 hl0 ⊢
              clear hws BD
              have hal : Below ws.heap.size ws (ws.alloc (.cells #[.int .i64 2, .int .i64 1, .string S] 39)) := (Below.refl _ _).alloc (Nat.le_refl _) _
              have HAL := hide ((unhide HBw).trans (hal.mono (unhide HBw).size))
              have HS2 : Hid ((ws.alloc (.cells #[.int .i64 2, .int .i64 1, .string S] 39)).ownsRow w.heap.size 39 3 (.slice a2 q c2) q (ptc L)) := hide (by have h9 := own_call (unhide HL).out (unhide HAL); rw [unhide HLQ] at h9; exact h9)
              have HB2 := hide ((unhide HL).bel.trans ((unhide HAL).mono (unhide HL).bel.size))
              have HC2 := hide (RowAt.new ws 39 [.int .i64 2, .int .i64 1, .string S])
              clear hal
              go_wp2_with (at_builtin; refine unhide ?_)
              obtain ⟨i9, hi9, hz9, hs9, hb9⟩ := info_parts infoPt
              refine hide ?_
              refine wpList_append_own_at _ rfl _ _ 24 rfl w.heap.size 39 i9 (.agg #[.int .i64 0, .int .i64 0, .string ⟨#[]⟩]) 3 32 Tryd.underlying24 hi9 hz9 hs9 hb9 rfl (by decide) (.slice a2 q c2) q (ptc L) rfl (unhide HS2) ⟨ws.heap.size, 0, none⟩ 1 1 [.int .i64 2, .int .i64 1, .string S] rfl rfl (fun j u hj => by
                have h9 := (unhide HC2).cell j
                rw [hj] at h9
                rw [Addr.add_lit, Nat.zero_add]
                exact h9) (fun u hu => by
                simp only [List.mem_cons, List.not_mem_nil, or_false] at hu
                rcases hu with rfl | rfl | rfl <;> rfl) (by unfold maxLen; omega) (by omega) (unhide HB2).size ?_
              intro v' w3 ho hg _ _
              obtain ⟨a4, c4, rfl, _, _⟩ := own_sl3 ho
              have HL2 := hide ((unhide HL).step (i' := i) (j' := j + 1) (p := ⟨2, 1, S⟩) (unhide HAL) hg (by rw [unhide HLQ]; exact ho) (by rw [show ([⟨2, 1, S⟩] : List Pt) = [⟨2, ((1 : Nat) : Int), S⟩] from rfl, one_p (n := 1) (unhide HST) (by rfl) (by omega), unhide HK]; rfl) (by omega) (by show 4 * j + S.size ≤ 4 * (j + 1); omega))
              clear ho hg HL HS2 HB2 HC2 HAL HBw i9 hi9 hz9 hs9 hb9
              go_wp2_with fail
              have hl9 : (L ++ [(⟨2, 1, S⟩ : Pt)]).length = q + 1 := by rw [List.length_append, unhide HLQ]; rfl
              exact ⟨⟨s + 1, i, j + 1, a4, c4, _, by omega, by omega, by omega, by simp, by first | (simp; done) | (simp; omega), by first | (simp; done) | (simp; omega), by have h9 := unhide HSIJ; omega, by rw [hl9], by rw [hl9]; exact HL2⟩, by simp [intOf]; omega⟩
        · obtain rfl : j = m := by omega
          have HCC := hide hc
          have hk := (lead_drop (x := x) (y := y) (i := i) (j := j) (by unfold sameB; rw [List.getElem?_eq_none (l := y) (by rw [unhide HM]; exact Nat.le_refl _)]; cases x[i]? <;> rfl) (by unfold dropB; rw [unhide HM]; simp) (.inl (by rw [unhide HN]; exact ci)) (by rw [unhide HM]; exact Nat.le_refl _)).2
          have HK := hide hk
          clear hk hc
          go_wp2_with fail
          refine wp_region_T (S := fun W => Below wr.drew.heap.size wr.drew W) (fun i => decide (i < 22)) (by kernel_rfl) (Below.refl _ _) (fun hHeld => ?_)
          refine wpAnyT_take (i := 0) (oi := { dst := some 57, op := Op.move (Operand.tmp 11), type := 3, pos := "ref.go:86", after := #[], guard := none }) (v := .int .i64 (i : Int)) rfl (by kernel_rfl) (by kernel_rfl) (by kernel_rfl) (by kernel_rfl) (fun _ _ _ h => h) (Or.inl ⟨by rfl, ?_⟩) hHeld ?_
          · intro w hSw
            skip
            first
              | rfl
              | (go_simp; done)
          try simp only [Act.put, List.setIfInBounds_toArray, List.set_cons_zero, List.set_cons_succ]
          refine wpAnyT_take (i := 1) (oi := { dst := some 58, op := Op.move (Operand.tmp 7), type := 54, pos := "ref.go:86", after := #[], guard := none }) (v := .slice aa n ca) rfl (by kernel_rfl) (by kernel_rfl) (by kernel_rfl) (by kernel_rfl) (fun _ _ _ h => h) (Or.inl ⟨by rfl, ?_⟩) hHeld ?_
          · intro w hSw
            skip
            first
              | rfl
              | (go_simp; done)
          try simp only [Act.put, List.setIfInBounds_toArray, List.set_cons_zero, List.set_cons_succ]
          refine wpAnyT_take (i := 2) (oi := { dst := some 59, op := Op.call { callee := Callee.builtin Builtin.len, args := #[Operand.tmp 58], argTypes := #[54] }, type := 3, pos := "ref.go:86", after := #[{ on := 1, ground := Ground.data }], guard := none }) (v := .int .i64 (n : Int)) rfl (by kernel_rfl) (by kernel_rfl) (by kernel_rfl) (by kernel_rfl) (fun _ _ _ h => h) (Or.inl ⟨by rfl, ?_⟩) hHeld ?_
          · intro w hSw
            skip
            first
              | rfl
              | (go_simp; done)
          try simp only [Act.put, List.setIfInBounds_toArray, List.set_cons_zero, List.set_cons_succ]
          refine wpAnyT_take (i := 3) (oi := { dst := some 60, op := Op.binOp BinOp.lss 3 (Operand.tmp 57) (Operand.tmp 59) 3, type := 4, pos := "ref.go:86", after := #[{ on := 0, ground := Ground.data }, { on := 2, ground := Ground.data }], guard := none }) (v := .bool true) rfl (by kernel_rfl) (by kernel_rfl) (by kernel_rfl) (by kernel_rfl) (fun _ _ _ h => h) (Or.inl ⟨by rfl, ?_⟩) hHeld ?_
          · intro w hSw
            skip
            first
              | rfl
              | (go_simp; done)
          try simp only [Act.put, List.setIfInBounds_toArray, List.set_cons_zero, List.set_cons_succ]
          refine wpAnyT_take (i := 4) (oi := { dst := some 61, op := Op.move (Operand.tmp 60), type := 4, pos := "ref.go:86", after := #[{ on := 3, ground := Ground.data }], guard := none }) (v := .bool true) rfl (by kernel_rfl) (by kernel_rfl) (by kernel_rfl) (by kernel_rfl) (fun _ _ _ h => h) (Or.inl ⟨by rfl, ?_⟩) hHeld ?_
          · intro w hSw
            skip
            first
              | rfl
              | (go_simp; done)
          try simp only [Act.put, List.setIfInBounds_toArray, List.set_cons_zero, List.set_cons_succ]
          refine wpAnyT_take (i := 5) (oi := { dst := some 62, op := Op.move (Operand.tmp 12), type := 3, pos := "ref.go:86", after := #[{ on := 4, ground := Ground.guard }], guard := some (4, true) }) (v := .int .i64 (j : Int)) rfl (by kernel_rfl) (by kernel_rfl) (by kernel_rfl) (by kernel_rfl) (fun _ _ _ h => h) (Or.inl ⟨by rfl, ?_⟩) hHeld ?_
          · intro w hSw
            skip
            first
              | rfl
              | (go_simp; done)
          try simp only [Act.put, List.setIfInBounds_toArray, List.set_cons_zero, List.set_cons_succ]
          refine wpAnyT_take (i := 6) (oi := { dst := some 63, op := Op.move (Operand.tmp 8), type := 54, pos := "ref.go:86", after := #[{ on := 4, ground := Ground.guard }], guard := some (4, true) }) (v := .slice ab j cb) rfl (by kernel_rfl) (by kernel_rfl) (by kernel_rfl) (by kernel_rfl) (fun _ _ _ h => h) (Or.inl ⟨by rfl, ?_⟩) hHeld ?_
          · intro w hSw
            skip
            first
              | rfl
              | (go_simp; done)
          try simp only [Act.put, List.setIfInBounds_toArray, List.set_cons_zero, List.set_cons_succ]
          refine wpAnyT_take (i := 7) (oi := { dst := some 64, op := Op.call { callee := Callee.builtin Builtin.len, args := #[Operand.tmp 63], argTypes := #[54] }, type := 3, pos := "ref.go:86", after := #[{ on := 6, ground := Ground.data }, { on := 4, ground := Ground.guard }], guard := some (4, true) }) (v := .int .i64 (j : Int)) rfl (by kernel_rfl) (by kernel_rfl) (by kernel_rfl) (by kernel_rfl) (fun _ _ _ h => h) (Or.inl ⟨by rfl, ?_⟩) hHeld ?_
          · intro w hSw
            skip
            first
              | rfl
              | (go_simp; done)
          try simp only [Act.put, List.setIfInBounds_toArray, List.set_cons_zero, List.set_cons_succ]
          refine wpAnyT_take (i := 8) (oi := { dst := some 65, op := Op.binOp BinOp.lss 3 (Operand.tmp 62) (Operand.tmp 64) 3, type := 4, pos := "ref.go:86", after := #[{ on := 5, ground := Ground.data }, { on := 7, ground := Ground.data }, { on := 4, ground := Ground.guard }], guard := some (4, true) }) (v := .bool false) rfl (by kernel_rfl) (by kernel_rfl) (by kernel_rfl) (by kernel_rfl) (fun _ _ _ h => h) (Or.inl ⟨by rfl, ?_⟩) hHeld ?_
          · intro w hSw
            skip
            first
              | rfl
              | (go_simp; done)
          try simp only [Act.put, List.setIfInBounds_toArray, List.set_cons_zero, List.set_cons_succ]
          refine wpAnyT_take (i := 9) (oi := { dst := some 66, op := Op.pick (Operand.tmp 61) (Operand.tmp 65) (Operand.const (Value.bool false)), type := 4, pos := "ref.go:86", after := #[{ on := 4, ground := Ground.data }, { on := 8, ground := Ground.data }], guard := none }) (v := .bool false) rfl (by kernel_rfl) (by kernel_rfl) (by kernel_rfl) (by kernel_rfl) (fun _ _ _ h => h) (Or.inl ⟨by rfl, ?_⟩) hHeld ?_
          · intro w hSw
            skip
            first
              | rfl
              | (go_simp; done)
          try simp only [Act.put, List.setIfInBounds_toArray, List.set_cons_zero, List.set_cons_succ]
          refine wpAnyT_take (i := 10) (oi := { dst := some 67, op := Op.move (Operand.tmp 66), type := 4, pos := "ref.go:86", after := #[{ on := 9, ground := Ground.data }, { on := 4, ground := Ground.chain }], guard := none }) (v := .bool false) rfl (by kernel_rfl) (by kernel_rfl) (by kernel_rfl) (by kernel_rfl) (fun _ _ _ h => h) (Or.inl ⟨by rfl, ?_⟩) hHeld ?_
          · intro w hSw
            skip
            first
              | rfl
              | (go_simp; done)
          try simp only [Act.put, List.setIfInBounds_toArray, List.set_cons_zero, List.set_cons_succ]
          refine wpAnyT_take (i := 11) (oi := { dst := some 68, op := Op.move (Operand.tmp 7), type := 54, pos := "ref.go:86", after := #[{ on := 10, ground := Ground.guard }], guard := some (10, true) }) (v := undef) rfl (by kernel_rfl) (by kernel_rfl) (by kernel_rfl) (by kernel_rfl) (fun _ _ _ h => h) (Or.inr ⟨by rfl, rfl⟩) hHeld ?_
          try simp only [Act.put, List.setIfInBounds_toArray, List.set_cons_zero, List.set_cons_succ]
          refine wpAnyT_take (i := 12) (oi := { dst := some 69, op := Op.move (Operand.tmp 11), type := 3, pos := "ref.go:86", after := #[{ on := 10, ground := Ground.guard }], guard := some (10, true) }) (v := undef) rfl (by kernel_rfl) (by kernel_rfl) (by kernel_rfl) (by kernel_rfl) (fun _ _ _ h => h) (Or.inr ⟨by rfl, rfl⟩) hHeld ?_
          try simp only [Act.put, List.setIfInBounds_toArray, List.set_cons_zero, List.set_cons_succ]
          refine wpAnyT_take (i := 13) (oi := { dst := some 70, op := Op.indexAddr 54 (Operand.tmp 68) (Operand.tmp 69), type := 0, pos := "ref.go:86", after := #[{ on := 11, ground := Ground.data }, { on := 12, ground := Ground.data }, { on := 10, ground := Ground.guard }], guard := some (10, true) }) (v := undef) rfl (by kernel_rfl) (by kernel_rfl) (by kernel_rfl) (by kernel_rfl) (fun _ _ _ h => h) (Or.inr ⟨by rfl, rfl⟩) hHeld ?_
          try simp only [Act.put, List.setIfInBounds_toArray, List.set_cons_zero, List.set_cons_succ]
          refine wpAnyT_take (i := 14) (oi := { dst := some 71, op := Op.load 21 (Operand.tmp 70), type := 21, pos := "ref.go:86", after := #[{ on := 13, ground := Ground.data }, { on := 10, ground := Ground.guard }], guard := some (10, true) }) (v := undef) rfl (by kernel_rfl) (by kernel_rfl) (by kernel_rfl) (by kernel_rfl) (fun _ _ _ h => h) (Or.inr ⟨by rfl, rfl⟩) hHeld ?_
          try simp only [Act.put, List.setIfInBounds_toArray, List.set_cons_zero, List.set_cons_succ]
          refine wpAnyT_take (i := 15) (oi := { dst := some 72, op := Op.move (Operand.tmp 8), type := 54, pos := "ref.go:86", after := #[{ on := 10, ground := Ground.guard }], guard := some (10, true) }) (v := undef) rfl (by kernel_rfl) (by kernel_rfl) (by kernel_rfl) (by kernel_rfl) (fun _ _ _ h => h) (Or.inr ⟨by rfl, rfl⟩) hHeld ?_
          try simp only [Act.put, List.setIfInBounds_toArray, List.set_cons_zero, List.set_cons_succ]
          refine wpAnyT_take (i := 16) (oi := { dst := some 73, op := Op.move (Operand.tmp 12), type := 3, pos := "ref.go:86", after := #[{ on := 10, ground := Ground.guard }], guard := some (10, true) }) (v := undef) rfl (by kernel_rfl) (by kernel_rfl) (by kernel_rfl) (by kernel_rfl) (fun _ _ _ h => h) (Or.inr ⟨by rfl, rfl⟩) hHeld ?_
          try simp only [Act.put, List.setIfInBounds_toArray, List.set_cons_zero, List.set_cons_succ]
          refine wpAnyT_take (i := 17) (oi := { dst := some 74, op := Op.indexAddr 54 (Operand.tmp 72) (Operand.tmp 73), type := 0, pos := "ref.go:86", after := #[{ on := 15, ground := Ground.data }, { on := 16, ground := Ground.data }, { on := 10, ground := Ground.guard }], guard := some (10, true) }) (v := undef) rfl (by kernel_rfl) (by kernel_rfl) (by kernel_rfl) (by kernel_rfl) (fun _ _ _ h => h) (Or.inr ⟨by rfl, rfl⟩) hHeld ?_
          try simp only [Act.put, List.setIfInBounds_toArray, List.set_cons_zero, List.set_cons_succ]
          refine wpAnyT_take (i := 18) (oi := { dst := some 75, op := Op.load 21 (Operand.tmp 74), type := 21, pos := "ref.go:86", after := #[{ on := 17, ground := Ground.data }, { on := 10, ground := Ground.guard }], guard := some (10, true) }) (v := undef) rfl (by kernel_rfl) (by kernel_rfl) (by kernel_rfl) (by kernel_rfl) (fun _ _ _ h => h) (Or.inr ⟨by rfl, rfl⟩) hHeld ?_
          try simp only [Act.put, List.setIfInBounds_toArray, List.set_cons_zero, List.set_cons_succ]
          refine wpAnyT_take (i := 19) (oi := { dst := some 76, op := Op.binOp BinOp.eql 21 (Operand.tmp 71) (Operand.tmp 75) 21, type := 4, pos := "ref.go:86", after := #[{ on := 14, ground := Ground.data }, { on := 18, ground := Ground.data }, { on := 10, ground := Ground.guard }], guard := some (10, true) }) (v := undef) rfl (by kernel_rfl) (by kernel_rfl) (by kernel_rfl) (by kernel_rfl) (fun _ _ _ h => h) (Or.inr ⟨by rfl, rfl⟩) hHeld ?_
          try simp only [Act.put, List.setIfInBounds_toArray, List.set_cons_zero, List.set_cons_succ]
          refine wpAnyT_take (i := 20) (oi := { dst := some 77, op := Op.pick (Operand.tmp 67) (Operand.tmp 76) (Operand.const (Value.bool false)), type := 4, pos := "ref.go:86", after := #[{ on := 10, ground := Ground.data }, { on := 19, ground := Ground.data }], guard := none }) (v := .bool false) rfl (by kernel_rfl) (by kernel_rfl) (by kernel_rfl) (by kernel_rfl) (fun _ _ _ h => h) (Or.inl ⟨by rfl, ?_⟩) hHeld ?_
          · intro w hSw
            skip
            first
              | rfl
              | (go_simp; done)
          try simp only [Act.put, List.setIfInBounds_toArray, List.set_cons_zero, List.set_cons_succ]
          refine wpAnyT_take (i := 21) (oi := { dst := some 56, op := Op.assign (Operand.tmp 77), type := 4, pos := "ref.go:86", after := #[{ on := 20, ground := Ground.data }, { on := 10, ground := Ground.chain }], guard := none }) (v := .bool false) rfl (by kernel_rfl) (by kernel_rfl) (by kernel_rfl) (by kernel_rfl) (fun _ _ _ h => h) (Or.inl ⟨by rfl, ?_⟩) hHeld ?_
          · intro w hSw
            skip
            first
              | rfl
              | (go_simp; done)
          try simp only [Act.put, List.setIfInBounds_toArray, List.set_cons_zero, List.set_cons_succ]
          refine wpAnyT_done (by kernel_rfl) ?_ _
          have HBw := hide ((unhide HBw).trans ((Below.refl wr.heap.size wr).drew.mono (unhide HBw).size))
          obtain ⟨wu, hws⟩ : ∃ z, wr.drew = z := ⟨_, rfl⟩
          rw [hws] at HBw ⊢
          clear hws
          go_wp2_with fail
          refine wp_region_T (S := fun W => Below wu.drew.heap.size wu.drew W) (fun i => decide (i < 30)) (by kernel_rfl) (Below.refl _ _) (fun hHeld => ?_)
          refine wpAnyT_take (i := 0) (oi := { dst := some 87, op := Op.move (Operand.tmp 12), type := 3, pos := "ref.go:90", after := #[], guard := none }) (v := .int .i64 (j : Int)) rfl (by kernel_rfl) (by kernel_rfl) (by kernel_rfl) (by kernel_rfl) (fun _ _ _ h => h) (Or.inl ⟨by rfl, ?_⟩) hHeld ?_
          · intro w hSw
            skip
            first
              | rfl
              | (go_simp; done)
          try simp only [Act.put, List.setIfInBounds_toArray, List.set_cons_zero, List.set_cons_succ]
          refine wpAnyT_take (i := 1) (oi := { dst := some 88, op := Op.move (Operand.tmp 8), type := 54, pos := "ref.go:90", after := #[], guard := none }) (v := .slice ab j cb) rfl (by kernel_rfl) (by kernel_rfl) (by kernel_rfl) (by kernel_rfl) (fun _ _ _ h => h) (Or.inl ⟨by rfl, ?_⟩) hHeld ?_
          · intro w hSw
            skip
            first
              | rfl
              | (go_simp; done)
          try simp only [Act.put, List.setIfInBounds_toArray, List.set_cons_zero, List.set_cons_succ]
          refine wpAnyT_take (i := 2) (oi := { dst := some 89, op := Op.call { callee := Callee.builtin Builtin.len, args := #[Operand.tmp 88], argTypes := #[54] }, type := 3, pos := "ref.go:90", after := #[{ on := 1, ground := Ground.data }], guard := none }) (v := .int .i64 (j : Int)) rfl (by kernel_rfl) (by kernel_rfl) (by kernel_rfl) (by kernel_rfl) (fun _ _ _ h => h) (Or.inl ⟨by rfl, ?_⟩) hHeld ?_
          · intro w hSw
            skip
            first
              | rfl
              | (go_simp; done)
          try simp only [Act.put, List.setIfInBounds_toArray, List.set_cons_zero, List.set_cons_succ]
          refine wpAnyT_take (i := 3) (oi := { dst := some 90, op := Op.binOp BinOp.eql 3 (Operand.tmp 87) (Operand.tmp 89) 3, type := 4, pos := "ref.go:90", after := #[{ on := 0, ground := Ground.data }, { on := 2, ground := Ground.data }], guard := none }) (v := .bool true) rfl (by kernel_rfl) (by kernel_rfl) (by kernel_rfl) (by kernel_rfl) (fun _ _ _ h => h) (Or.inl ⟨by rfl, ?_⟩) hHeld ?_
          · intro w hSw
            skip
            first
              | rfl
              | (go_simp; done)
          try simp only [Act.put, List.setIfInBounds_toArray, List.set_cons_zero, List.set_cons_succ]
          refine wpAnyT_take (i := 4) (oi := { dst := some 91, op := Op.move (Operand.tmp 90), type := 4, pos := "ref.go:90", after := #[{ on := 3, ground := Ground.data }], guard := none }) (v := .bool true) rfl (by kernel_rfl) (by kernel_rfl) (by kernel_rfl) (by kernel_rfl) (fun _ _ _ h => h) (Or.inl ⟨by rfl, ?_⟩) hHeld ?_
          · intro w hSw
            skip
            first
              | rfl
              | (go_simp; done)
          try simp only [Act.put, List.setIfInBounds_toArray, List.set_cons_zero, List.set_cons_succ]
          refine wpAnyT_take (i := 5) (oi := { dst := some 92, op := Op.move (Operand.tmp 11), type := 3, pos := "ref.go:90", after := #[{ on := 4, ground := Ground.guard }], guard := some (4, false) }) (v := undef) rfl (by kernel_rfl) (by kernel_rfl) (by kernel_rfl) (by kernel_rfl) (fun _ _ _ h => h) (Or.inr ⟨by rfl, rfl⟩) hHeld ?_
          try simp only [Act.put, List.setIfInBounds_toArray, List.set_cons_zero, List.set_cons_succ]
          refine wpAnyT_take (i := 6) (oi := { dst := some 93, op := Op.move (Operand.tmp 7), type := 54, pos := "ref.go:90", after := #[{ on := 4, ground := Ground.guard }], guard := some (4, false) }) (v := undef) rfl (by kernel_rfl) (by kernel_rfl) (by kernel_rfl) (by kernel_rfl) (fun _ _ _ h => h) (Or.inr ⟨by rfl, rfl⟩) hHeld ?_
          try simp only [Act.put, List.setIfInBounds_toArray, List.set_cons_zero, List.set_cons_succ]
          refine wpAnyT_take (i := 7) (oi := { dst := some 94, op := Op.call { callee := Callee.builtin Builtin.len, args := #[Operand.tmp 93], argTypes := #[54] }, type := 3, pos := "ref.go:90", after := #[{ on := 6, ground := Ground.data }, { on := 4, ground := Ground.guard }], guard := some (4, false) }) (v := undef) rfl (by kernel_rfl) (by kernel_rfl) (by kernel_rfl) (by kernel_rfl) (fun _ _ _ h => h) (Or.inr ⟨by rfl, rfl⟩) hHeld ?_
          try simp only [Act.put, List.setIfInBounds_toArray, List.set_cons_zero, List.set_cons_succ]
          refine wpAnyT_take (i := 8) (oi := { dst := some 95, op := Op.binOp BinOp.lss 3 (Operand.tmp 92) (Operand.tmp 94) 3, type := 4, pos := "ref.go:90", after := #[{ on := 5, ground := Ground.data }, { on := 7, ground := Ground.data }, { on := 4, ground := Ground.guard }], guard := some (4, false) }) (v := undef) rfl (by kernel_rfl) (by kernel_rfl) (by kernel_rfl) (by kernel_rfl) (fun _ _ _ h => h) (Or.inr ⟨by rfl, rfl⟩) hHeld ?_
          try simp only [Act.put, List.setIfInBounds_toArray, List.set_cons_zero, List.set_cons_succ]
          refine wpAnyT_take (i := 9) (oi := { dst := some 96, op := Op.move (Operand.tmp 95), type := 4, pos := "ref.go:90", after := #[{ on := 8, ground := Ground.data }, { on := 4, ground := Ground.chain }, { on := 4, ground := Ground.guard }], guard := some (4, false) }) (v := undef) rfl (by kernel_rfl) (by kernel_rfl) (by kernel_rfl) (by kernel_rfl) (fun _ _ _ h => h) (Or.inr ⟨by rfl, rfl⟩) hHeld ?_
          try simp only [Act.put, List.setIfInBounds_toArray, List.set_cons_zero, List.set_cons_succ]
          refine wpAnyT_take (i := 10) (oi := { dst := some 97, op := Op.move (Operand.tmp 9), type := 57, pos := "ref.go:90", after := #[{ on := 9, ground := Ground.guard }], guard := some (9, true) }) (v := undef) rfl (by kernel_rfl) (by kernel_rfl) (by kernel_rfl) (by kernel_rfl) (fun _ _ _ h => h) (Or.inr ⟨by rfl, rfl⟩) hHeld ?_
          try simp only [Act.put, List.setIfInBounds_toArray, List.set_cons_zero, List.set_cons_succ]
          refine wpAnyT_take (i := 11) (oi := { dst := some 98, op := Op.move (Operand.tmp 11), type := 3, pos := "ref.go:90", after := #[{ on := 9, ground := Ground.guard }], guard := some (9, true) }) (v := undef) rfl (by kernel_rfl) (by kernel_rfl) (by kernel_rfl) (by kernel_rfl) (fun _ _ _ h => h) (Or.inr ⟨by rfl, rfl⟩) hHeld ?_
          try simp only [Act.put, List.setIfInBounds_toArray, List.set_cons_zero, List.set_cons_succ]
          refine wpAnyT_take (i := 12) (oi := { dst := some 99, op := Op.binOp BinOp.add 3 (Operand.tmp 98) (Operand.const (Value.int IntKind.i64 1)) 3, type := 3, pos := "ref.go:90", after := #[{ on := 11, ground := Ground.data }, { on := 9, ground := Ground.guard }], guard := some (9, true) }) (v := undef) rfl (by kernel_rfl) (by kernel_rfl) (by kernel_rfl) (by kernel_rfl) (fun _ _ _ h => h) (Or.inr ⟨by rfl, rfl⟩) hHeld ?_
          try simp only [Act.put, List.setIfInBounds_toArray, List.set_cons_zero, List.set_cons_succ]
          refine wpAnyT_take (i := 13) (oi := { dst := some 100, op := Op.indexAddr 57 (Operand.tmp 97) (Operand.tmp 99), type := 0, pos := "ref.go:90", after := #[{ on := 10, ground := Ground.data }, { on := 12, ground := Ground.data }, { on := 9, ground := Ground.guard }], guard := some (9, true) }) (v := undef) rfl (by kernel_rfl) (by kernel_rfl) (by kernel_rfl) (by kernel_rfl) (fun _ _ _ h => h) (Or.inr ⟨by rfl, rfl⟩) hHeld ?_
          try simp only [Act.put, List.setIfInBounds_toArray, List.set_cons_zero, List.set_cons_succ]
          refine wpAnyT_take (i := 14) (oi := { dst := some 101, op := Op.load 59 (Operand.tmp 100), type := 59, pos := "ref.go:90", after := #[{ on := 13, ground := Ground.data }, { on := 9, ground := Ground.guard }], guard := some (9, true) }) (v := undef) rfl (by kernel_rfl) (by kernel_rfl) (by kernel_rfl) (by kernel_rfl) (fun _ _ _ h => h) (Or.inr ⟨by rfl, rfl⟩) hHeld ?_
          try simp only [Act.put, List.setIfInBounds_toArray, List.set_cons_zero, List.set_cons_succ]
          refine wpAnyT_take (i := 15) (oi := { dst := some 102, op := Op.move (Operand.tmp 12), type := 3, pos := "ref.go:90", after := #[{ on := 9, ground := Ground.guard }], guard := some (9, true) }) (v := undef) rfl (by kernel_rfl) (by kernel_rfl) (by kernel_rfl) (by kernel_rfl) (fun _ _ _ h => h) (Or.inr ⟨by rfl, rfl⟩) hHeld ?_
          try simp only [Act.put, List.setIfInBounds_toArray, List.set_cons_zero, List.set_cons_succ]
          refine wpAnyT_take (i := 16) (oi := { dst := some 103, op := Op.indexAddr 59 (Operand.tmp 101) (Operand.tmp 102), type := 0, pos := "ref.go:90", after := #[{ on := 14, ground := Ground.data }, { on := 15, ground := Ground.data }, { on := 9, ground := Ground.guard }], guard := some (9, true) }) (v := undef) rfl (by kernel_rfl) (by kernel_rfl) (by kernel_rfl) (by kernel_rfl) (fun _ _ _ h => h) (Or.inr ⟨by rfl, rfl⟩) hHeld ?_
          try simp only [Act.put, List.setIfInBounds_toArray, List.set_cons_zero, List.set_cons_succ]
          refine wpAnyT_take (i := 17) (oi := { dst := some 104, op := Op.load 3 (Operand.tmp 103), type := 3, pos := "ref.go:90", after := #[{ on := 16, ground := Ground.data }, { on := 9, ground := Ground.guard }], guard := some (9, true) }) (v := undef) rfl (by kernel_rfl) (by kernel_rfl) (by kernel_rfl) (by kernel_rfl) (fun _ _ _ h => h) (Or.inr ⟨by rfl, rfl⟩) hHeld ?_
          try simp only [Act.put, List.setIfInBounds_toArray, List.set_cons_zero, List.set_cons_succ]
          refine wpAnyT_take (i := 18) (oi := { dst := some 105, op := Op.move (Operand.tmp 9), type := 57, pos := "ref.go:90", after := #[{ on := 9, ground := Ground.guard }], guard := some (9, true) }) (v := undef) rfl (by kernel_rfl) (by kernel_rfl) (by kernel_rfl) (by kernel_rfl) (fun _ _ _ h => h) (Or.inr ⟨by rfl, rfl⟩) hHeld ?_
          try simp only [Act.put, List.setIfInBounds_toArray, List.set_cons_zero, List.set_cons_succ]
          refine wpAnyT_take (i := 19) (oi := { dst := some 106, op := Op.move (Operand.tmp 11), type := 3, pos := "ref.go:90", after := #[{ on := 9, ground := Ground.guard }], guard := some (9, true) }) (v := undef) rfl (by kernel_rfl) (by kernel_rfl) (by kernel_rfl) (by kernel_rfl) (fun _ _ _ h => h) (Or.inr ⟨by rfl, rfl⟩) hHeld ?_
          try simp only [Act.put, List.setIfInBounds_toArray, List.set_cons_zero, List.set_cons_succ]
          refine wpAnyT_take (i := 20) (oi := { dst := some 107, op := Op.indexAddr 57 (Operand.tmp 105) (Operand.tmp 106), type := 0, pos := "ref.go:90", after := #[{ on := 18, ground := Ground.data }, { on := 19, ground := Ground.data }, { on := 9, ground := Ground.guard }], guard := some (9, true) }) (v := undef) rfl (by kernel_rfl) (by kernel_rfl) (by kernel_rfl) (by kernel_rfl) (fun _ _ _ h => h) (Or.inr ⟨by rfl, rfl⟩) hHeld ?_
          try simp only [Act.put, List.setIfInBounds_toArray, List.set_cons_zero, List.set_cons_succ]
          refine wpAnyT_take (i := 21) (oi := { dst := some 108, op := Op.load 59 (Operand.tmp 107), type := 59, pos := "ref.go:90", after := #[{ on := 20, ground := Ground.data }, { on := 9, ground := Ground.guard }], guard := some (9, true) }) (v := undef) rfl (by kernel_rfl) (by kernel_rfl) (by kernel_rfl) (by kernel_rfl) (fun _ _ _ h => h) (Or.inr ⟨by rfl, rfl⟩) hHeld ?_
          try simp only [Act.put, List.setIfInBounds_toArray, List.set_cons_zero, List.set_cons_succ]
          refine wpAnyT_take (i := 22) (oi := { dst := some 109, op := Op.move (Operand.tmp 12), type := 3, pos := "ref.go:90", after := #[{ on := 9, ground := Ground.guard }], guard := some (9, true) }) (v := undef) rfl (by kernel_rfl) (by kernel_rfl) (by kernel_rfl) (by kernel_rfl) (fun _ _ _ h => h) (Or.inr ⟨by rfl, rfl⟩) hHeld ?_
          try simp only [Act.put, List.setIfInBounds_toArray, List.set_cons_zero, List.set_cons_succ]
          refine wpAnyT_take (i := 23) (oi := { dst := some 110, op := Op.binOp BinOp.add 3 (Operand.tmp 109) (Operand.const (Value.int IntKind.i64 1)) 3, type := 3, pos := "ref.go:90", after := #[{ on := 22, ground := Ground.data }, { on := 9, ground := Ground.guard }], guard := some (9, true) }) (v := undef) rfl (by kernel_rfl) (by kernel_rfl) (by kernel_rfl) (by kernel_rfl) (fun _ _ _ h => h) (Or.inr ⟨by rfl, rfl⟩) hHeld ?_
          try simp only [Act.put, List.setIfInBounds_toArray, List.set_cons_zero, List.set_cons_succ]
          refine wpAnyT_take (i := 24) (oi := { dst := some 111, op := Op.indexAddr 59 (Operand.tmp 108) (Operand.tmp 110), type := 0, pos := "ref.go:90", after := #[{ on := 21, ground := Ground.data }, { on := 23, ground := Ground.data }, { on := 9, ground := Ground.guard }], guard := some (9, true) }) (v := undef) rfl (by kernel_rfl) (by kernel_rfl) (by kernel_rfl) (by kernel_rfl) (fun _ _ _ h => h) (Or.inr ⟨by rfl, rfl⟩) hHeld ?_
          try simp only [Act.put, List.setIfInBounds_toArray, List.set_cons_zero, List.set_cons_succ]
          refine wpAnyT_take (i := 25) (oi := { dst := some 112, op := Op.load 3 (Operand.tmp 111), type := 3, pos := "ref.go:90", after := #[{ on := 24, ground := Ground.data }, { on := 9, ground := Ground.guard }], guard := some (9, true) }) (v := undef) rfl (by kernel_rfl) (by kernel_rfl) (by kernel_rfl) (by kernel_rfl) (fun _ _ _ h => h) (Or.inr ⟨by rfl, rfl⟩) hHeld ?_
          try simp only [Act.put, List.setIfInBounds_toArray, List.set_cons_zero, List.set_cons_succ]
          refine wpAnyT_take (i := 26) (oi := { dst := some 113, op := Op.binOp BinOp.geq 3 (Operand.tmp 104) (Operand.tmp 112) 3, type := 4, pos := "ref.go:90", after := #[{ on := 17, ground := Ground.data }, { on := 25, ground := Ground.data }, { on := 9, ground := Ground.guard }], guard := some (9, true) }) (v := undef) rfl (by kernel_rfl) (by kernel_rfl) (by kernel_rfl) (by kernel_rfl) (fun _ _ _ h => h) (Or.inr ⟨by rfl, rfl⟩) hHeld ?_
          try simp only [Act.put, List.setIfInBounds_toArray, List.set_cons_zero, List.set_cons_succ]
          refine wpAnyT_take (i := 27) (oi := { dst := some 114, op := Op.pick (Operand.tmp 96) (Operand.tmp 113) (Operand.const (Value.bool false)), type := 4, pos := "ref.go:90", after := #[{ on := 9, ground := Ground.data }, { on := 26, ground := Ground.data }, { on := 4, ground := Ground.guard }], guard := some (4, false) }) (v := undef) rfl (by kernel_rfl) (by kernel_rfl) (by kernel_rfl) (by kernel_rfl) (fun _ _ _ h => h) (Or.inr ⟨by rfl, rfl⟩) hHeld ?_
          try simp only [Act.put, List.setIfInBounds_toArray, List.set_cons_zero, List.set_cons_succ]
          refine wpAnyT_take (i := 28) (oi := { dst := some 115, op := Op.pick (Operand.tmp 91) (Operand.const (Value.bool true)) (Operand.tmp 114), type := 4, pos := "ref.go:90", after := #[{ on := 4, ground := Ground.data }, { on := 27, ground := Ground.data }], guard := none }) (v := .bool true) rfl (by kernel_rfl) (by kernel_rfl) (by kernel_rfl) (by kernel_rfl) (fun _ _ _ h => h) (Or.inl ⟨by rfl, ?_⟩) hHeld ?_
          · intro w hSw
            skip
            first
              | rfl
              | (go_simp; done)
          try simp only [Act.put, List.setIfInBounds_toArray, List.set_cons_zero, List.set_cons_succ]
          refine wpAnyT_take (i := 29) (oi := { dst := some 86, op := Op.assign (Operand.tmp 115), type := 4, pos := "ref.go:90", after := #[{ on := 28, ground := Ground.data }, { on := 9, ground := Ground.chain }], guard := none }) (v := .bool true) rfl (by kernel_rfl) (by kernel_rfl) (by kernel_rfl) (by kernel_rfl) (fun _ _ _ h => h) (Or.inl ⟨by rfl, ?_⟩) hHeld ?_
          · intro w hSw
            skip
            first
              | rfl
              | (go_simp; done)
          try simp only [Act.put, List.setIfInBounds_toArray, List.set_cons_zero, List.set_cons_succ]
          refine wpAnyT_done (by kernel_rfl) ?_ _
          have HBw := hide ((unhide HBw).trans ((Below.refl wu.heap.size wu).drew.mono (unhide HBw).size))
          obtain ⟨ws, hws⟩ : ∃ z, wu.drew = z := ⟨_, rfl⟩
          rw [hws] at HBw ⊢
          clear hws
          have hal : Below ws.heap.size ws (ws.alloc (.cells #[.int .i64 3, .int .i64 1, .string ⟨#[]⟩] 39)) := (Below.refl _ _).alloc (Nat.le_refl _) _
          have HAL := hide ((unhide HBw).trans (hal.mono (unhide HBw).size))
          have HS2 : Hid ((ws.alloc (.cells #[.int .i64 3, .int .i64 1, .string ⟨#[]⟩] 39)).ownsRow w.heap.size 39 3 (.slice a2 q c2) q (ptc L)) := hide (by have h9 := own_call (unhide HL).out (unhide HAL); rw [unhide HLQ] at h9; exact h9)
          have HB2 := hide ((unhide HL).bel.trans ((unhide HAL).mono (unhide HL).bel.size))
          have HC2 := hide (RowAt.new ws 39 [.int .i64 3, .int .i64 1, .string ⟨#[]⟩])
          clear hal
          go_wp2_with (at_builtin; refine unhide ?_)
          obtain ⟨i9, hi9, hz9, hs9, hb9⟩ := info_parts infoPt
          refine hide ?_
          refine wpList_append_own_at _ rfl _ _ 24 rfl w.heap.size 39 i9 (.agg #[.int .i64 0, .int .i64 0, .string ⟨#[]⟩]) 3 32 Tryd.underlying24 hi9 hz9 hs9 hb9 rfl (by decide) (.slice a2 q c2) q (ptc L) rfl (unhide HS2) ⟨ws.heap.size, 0, none⟩ 1 1 [.int .i64 3, .int .i64 1, .string ⟨#[]⟩] rfl rfl (fun j u hj => by
            have h9 := (unhide HC2).cell j
            rw [hj] at h9
            rw [Addr.add_lit, Nat.zero_add]
            exact h9) (fun u hu => by
            simp only [List.mem_cons, List.not_mem_nil, or_false] at hu
            rcases hu with rfl | rfl | rfl <;> rfl) (by unfold maxLen; omega) (by omega) (unhide HB2).size ?_
          intro v' w3 ho hg _ _
          obtain ⟨a4, c4, rfl, _, _⟩ := own_sl3 ho
          have HL2 := hide ((unhide HL).step (i' := i + 1) (j' := j) (p := ⟨3, 1, ⟨#[]⟩⟩) (unhide HAL) hg (by rw [unhide HLQ]; exact ho) (by rw [one_d 1 (by omega), unhide HK]; rfl) (by omega) (by show 4 * j + 0 ≤ 4 * j; omega))
          clear ho hg HL HS2 HB2 HC2 HAL HBw i9 hi9 hz9 hs9 hb9
          go_wp2_with fail
          have hl9 : (L ++ [(⟨3, 1, ⟨#[]⟩⟩ : Pt)]).length = q + 1 := by rw [List.length_append, unhide HLQ]; rfl
          exact ⟨⟨s + 1, i + 1, j, a4, c4, _, by omega, by omega, by omega, by simp, by first | (simp; done) | (simp; omega), by first | (simp; done) | (simp; omega), by have h9 := unhide HSIJ; omega, by rw [hl9], by rw [hl9]; exact HL2⟩, by simp [intOf]; omega⟩
      · obtain rfl : i = n := by omega
        by_cases cj : j < m
        · obtain ⟨d, hd⟩ : ∃ z, y[j]? = some z := ⟨_, List.getElem?_eq_getElem (by rw [unhide HM]; omega)⟩
          have hjm : (j : Int) < (m : Int) := by omega
          have hje : ¬ j = m := by omega
          have hje2 : ((j : Int) == (m : Int)) = false := by simp; omega
          have hje3 : decide ((j : Int) = (m : Int)) = false := decide_eq_false (by omega)
          have hje4 : decide (j = m) = false := decide_eq_false hje
          have hje5 : (j == m) = false := by simp [hje]
          obtain ⟨gb, cb2, e, hcb, _⟩ := own_rd (unhide HL).b (rnv_at hd)
          injection e with e1 e2 e3
          clear e2
          subst e1 e3
          obtain ⟨d9, hd9, hk⟩ := lead_put (x := x) (y := y) (i := i) (j := j) (by unfold sameB; rw [List.getElem?_eq_none (l := x) (by rw [unhide HN]; exact Nat.le_refl _)]) (by unfold dropB; rw [unhide HN, unhide HM]; simp; exact hje) (by rw [unhide HN]; exact Nat.le_refl _) (by rw [unhide HM]; exact hj)
          obtain rfl : d = d9 := by rw [hd] at hd9; injection hd9
          have HK := hide hk
          have hcd := (unhide HX).2.1.cps _ (List.mem_of_getElem? hd)
          have henc := enc_cp hcd
          obtain ⟨z2, hz2⟩ : ∃ z : Int, (rn d : Int) = z := ⟨_, rfl⟩
          have henc2 : Utf8.encode z2 = ⟨d.toArray⟩ := by rw [← hz2]; exact henc
          rw [hz2] at hcb
          obtain ⟨S, hS⟩ : ∃ S : ByteArray, (⟨d.toArray⟩ : ByteArray) = S := ⟨_, rfl⟩
          rw [hS] at henc2
          have hcv : ∀ W, (convert 21 9 (.int .i32 z2)).run Tryd.prog W = .ok (.string S) W := fun W => by rw [← henc2]; rfl
          have hSt : Tx S [d] := by rw [← hS]; exact ⟨fun c hc => by rw [List.mem_singleton] at hc; rw [hc]; exact hcd, by simp⟩
          have HST := hide hSt
          have hSs : S.size ≤ 4 := by rw [← hS]; show d.toArray.size ≤ 4; rw [List.size_toArray]; exact hcd.four
          clear hk hd hd9 hz2 hcd henc henc2 hS hSt
          go_wp2_with fail
          refine wp_region_T (S := fun W => Below wr.drew.heap.size wr.drew W) (fun i => decide (i < 22)) (by kernel_rfl) (Below.refl _ _) (fun hHeld => ?_)
          refine wpAnyT_take (i := 0) (oi := { dst := some 57, op := Op.move (Operand.tmp 11), type := 3, pos := "ref.go:86", after := #[], guard := none }) (v := .int .i64 (i : Int)) rfl (by kernel_rfl) (by kernel_rfl) (by kernel_rfl) (by kernel_rfl) (fun _ _ _ h => h) (Or.inl ⟨by rfl, ?_⟩) hHeld ?_
          · intro w hSw
            skip
            first
              | rfl
              | (go_simp; done)
          try simp only [Act.put, List.setIfInBounds_toArray, List.set_cons_zero, List.set_cons_succ]
          refine wpAnyT_take (i := 1) (oi := { dst := some 58, op := Op.move (Operand.tmp 7), type := 54, pos := "ref.go:86", after := #[], guard := none }) (v := .slice aa i ca) rfl (by kernel_rfl) (by kernel_rfl) (by kernel_rfl) (by kernel_rfl) (fun _ _ _ h => h) (Or.inl ⟨by rfl, ?_⟩) hHeld ?_
          · intro w hSw
            skip
            first
              | rfl
              | (go_simp; done)
          try simp only [Act.put, List.setIfInBounds_toArray, List.set_cons_zero, List.set_cons_succ]
          refine wpAnyT_take (i := 2) (oi := { dst := some 59, op := Op.call { callee := Callee.builtin Builtin.len, args := #[Operand.tmp 58], argTypes := #[54] }, type := 3, pos := "ref.go:86", after := #[{ on := 1, ground := Ground.data }], guard := none }) (v := .int .i64 (i : Int)) rfl (by kernel_rfl) (by kernel_rfl) (by kernel_rfl) (by kernel_rfl) (fun _ _ _ h => h) (Or.inl ⟨by rfl, ?_⟩) hHeld ?_
          · intro w hSw
            skip
            first
              | rfl
              | (go_simp; done)
          try simp only [Act.put, List.setIfInBounds_toArray, List.set_cons_zero, List.set_cons_succ]
          refine wpAnyT_take (i := 3) (oi := { dst := some 60, op := Op.binOp BinOp.lss 3 (Operand.tmp 57) (Operand.tmp 59) 3, type := 4, pos := "ref.go:86", after := #[{ on := 0, ground := Ground.data }, { on := 2, ground := Ground.data }], guard := none }) (v := .bool false) rfl (by kernel_rfl) (by kernel_rfl) (by kernel_rfl) (by kernel_rfl) (fun _ _ _ h => h) (Or.inl ⟨by rfl, ?_⟩) hHeld ?_
          · intro w hSw
            skip
            first
              | rfl
              | (go_simp; done)
          try simp only [Act.put, List.setIfInBounds_toArray, List.set_cons_zero, List.set_cons_succ]
          refine wpAnyT_take (i := 4) (oi := { dst := some 61, op := Op.move (Operand.tmp 60), type := 4, pos := "ref.go:86", after := #[{ on := 3, ground := Ground.data }], guard := none }) (v := .bool false) rfl (by kernel_rfl) (by kernel_rfl) (by kernel_rfl) (by kernel_rfl) (fun _ _ _ h => h) (Or.inl ⟨by rfl, ?_⟩) hHeld ?_
          · intro w hSw
            skip
            first
              | rfl
              | (go_simp; done)
          try simp only [Act.put, List.setIfInBounds_toArray, List.set_cons_zero, List.set_cons_succ]
          refine wpAnyT_take (i := 5) (oi := { dst := some 62, op := Op.move (Operand.tmp 12), type := 3, pos := "ref.go:86", after := #[{ on := 4, ground := Ground.guard }], guard := some (4, true) }) (v := undef) rfl (by kernel_rfl) (by kernel_rfl) (by kernel_rfl) (by kernel_rfl) (fun _ _ _ h => h) (Or.inr ⟨by rfl, rfl⟩) hHeld ?_
          try simp only [Act.put, List.setIfInBounds_toArray, List.set_cons_zero, List.set_cons_succ]
          refine wpAnyT_take (i := 6) (oi := { dst := some 63, op := Op.move (Operand.tmp 8), type := 54, pos := "ref.go:86", after := #[{ on := 4, ground := Ground.guard }], guard := some (4, true) }) (v := undef) rfl (by kernel_rfl) (by kernel_rfl) (by kernel_rfl) (by kernel_rfl) (fun _ _ _ h => h) (Or.inr ⟨by rfl, rfl⟩) hHeld ?_
          try simp only [Act.put, List.setIfInBounds_toArray, List.set_cons_zero, List.set_cons_succ]
          refine wpAnyT_take (i := 7) (oi := { dst := some 64, op := Op.call { callee := Callee.builtin Builtin.len, args := #[Operand.tmp 63], argTypes := #[54] }, type := 3, pos := "ref.go:86", after := #[{ on := 6, ground := Ground.data }, { on := 4, ground := Ground.guard }], guard := some (4, true) }) (v := undef) rfl (by kernel_rfl) (by kernel_rfl) (by kernel_rfl) (by kernel_rfl) (fun _ _ _ h => h) (Or.inr ⟨by rfl, rfl⟩) hHeld ?_
          try simp only [Act.put, List.setIfInBounds_toArray, List.set_cons_zero, List.set_cons_succ]
          refine wpAnyT_take (i := 8) (oi := { dst := some 65, op := Op.binOp BinOp.lss 3 (Operand.tmp 62) (Operand.tmp 64) 3, type := 4, pos := "ref.go:86", after := #[{ on := 5, ground := Ground.data }, { on := 7, ground := Ground.data }, { on := 4, ground := Ground.guard }], guard := some (4, true) }) (v := undef) rfl (by kernel_rfl) (by kernel_rfl) (by kernel_rfl) (by kernel_rfl) (fun _ _ _ h => h) (Or.inr ⟨by rfl, rfl⟩) hHeld ?_
          try simp only [Act.put, List.setIfInBounds_toArray, List.set_cons_zero, List.set_cons_succ]
          refine wpAnyT_take (i := 9) (oi := { dst := some 66, op := Op.pick (Operand.tmp 61) (Operand.tmp 65) (Operand.const (Value.bool false)), type := 4, pos := "ref.go:86", after := #[{ on := 4, ground := Ground.data }, { on := 8, ground := Ground.data }], guard := none }) (v := .bool false) rfl (by kernel_rfl) (by kernel_rfl) (by kernel_rfl) (by kernel_rfl) (fun _ _ _ h => h) (Or.inl ⟨by rfl, ?_⟩) hHeld ?_
          · intro w hSw
            skip
            first
              | rfl
              | (go_simp; done)
          try simp only [Act.put, List.setIfInBounds_toArray, List.set_cons_zero, List.set_cons_succ]
          refine wpAnyT_take (i := 10) (oi := { dst := some 67, op := Op.move (Operand.tmp 66), type := 4, pos := "ref.go:86", after := #[{ on := 9, ground := Ground.data }, { on := 4, ground := Ground.chain }], guard := none }) (v := .bool false) rfl (by kernel_rfl) (by kernel_rfl) (by kernel_rfl) (by kernel_rfl) (fun _ _ _ h => h) (Or.inl ⟨by rfl, ?_⟩) hHeld ?_
          · intro w hSw
            skip
            first
              | rfl
              | (go_simp; done)
          try simp only [Act.put, List.setIfInBounds_toArray, List.set_cons_zero, List.set_cons_succ]
          refine wpAnyT_take (i := 11) (oi := { dst := some 68, op := Op.move (Operand.tmp 7), type := 54, pos := "ref.go:86", after := #[{ on := 10, ground := Ground.guard }], guard := some (10, true) }) (v := undef) rfl (by kernel_rfl) (by kernel_rfl) (by kernel_rfl) (by kernel_rfl) (fun _ _ _ h => h) (Or.inr ⟨by rfl, rfl⟩) hHeld ?_
          try simp only [Act.put, List.setIfInBounds_toArray, List.set_cons_zero, List.set_cons_succ]
          refine wpAnyT_take (i := 12) (oi := { dst := some 69, op := Op.move (Operand.tmp 11), type := 3, pos := "ref.go:86", after := #[{ on := 10, ground := Ground.guard }], guard := some (10, true) }) (v := undef) rfl (by kernel_rfl) (by kernel_rfl) (by kernel_rfl) (by kernel_rfl) (fun _ _ _ h => h) (Or.inr ⟨by rfl, rfl⟩) hHeld ?_
          try simp only [Act.put, List.setIfInBounds_toArray, List.set_cons_zero, List.set_cons_succ]
          refine wpAnyT_take (i := 13) (oi := { dst := some 70, op := Op.indexAddr 54 (Operand.tmp 68) (Operand.tmp 69), type := 0, pos := "ref.go:86", after := #[{ on := 11, ground := Ground.data }, { on := 12, ground := Ground.data }, { on := 10, ground := Ground.guard }], guard := some (10, true) }) (v := undef) rfl (by kernel_rfl) (by kernel_rfl) (by kernel_rfl) (by kernel_rfl) (fun _ _ _ h => h) (Or.inr ⟨by rfl, rfl⟩) hHeld ?_
          try simp only [Act.put, List.setIfInBounds_toArray, List.set_cons_zero, List.set_cons_succ]
          refine wpAnyT_take (i := 14) (oi := { dst := some 71, op := Op.load 21 (Operand.tmp 70), type := 21, pos := "ref.go:86", after := #[{ on := 13, ground := Ground.data }, { on := 10, ground := Ground.guard }], guard := some (10, true) }) (v := undef) rfl (by kernel_rfl) (by kernel_rfl) (by kernel_rfl) (by kernel_rfl) (fun _ _ _ h => h) (Or.inr ⟨by rfl, rfl⟩) hHeld ?_
          try simp only [Act.put, List.setIfInBounds_toArray, List.set_cons_zero, List.set_cons_succ]
          refine wpAnyT_take (i := 15) (oi := { dst := some 72, op := Op.move (Operand.tmp 8), type := 54, pos := "ref.go:86", after := #[{ on := 10, ground := Ground.guard }], guard := some (10, true) }) (v := undef) rfl (by kernel_rfl) (by kernel_rfl) (by kernel_rfl) (by kernel_rfl) (fun _ _ _ h => h) (Or.inr ⟨by rfl, rfl⟩) hHeld ?_
          try simp only [Act.put, List.setIfInBounds_toArray, List.set_cons_zero, List.set_cons_succ]
          refine wpAnyT_take (i := 16) (oi := { dst := some 73, op := Op.move (Operand.tmp 12), type := 3, pos := "ref.go:86", after := #[{ on := 10, ground := Ground.guard }], guard := some (10, true) }) (v := undef) rfl (by kernel_rfl) (by kernel_rfl) (by kernel_rfl) (by kernel_rfl) (fun _ _ _ h => h) (Or.inr ⟨by rfl, rfl⟩) hHeld ?_
          try simp only [Act.put, List.setIfInBounds_toArray, List.set_cons_zero, List.set_cons_succ]
          refine wpAnyT_take (i := 17) (oi := { dst := some 74, op := Op.indexAddr 54 (Operand.tmp 72) (Operand.tmp 73), type := 0, pos := "ref.go:86", after := #[{ on := 15, ground := Ground.data }, { on := 16, ground := Ground.data }, { on := 10, ground := Ground.guard }], guard := some (10, true) }) (v := undef) rfl (by kernel_rfl) (by kernel_rfl) (by kernel_rfl) (by kernel_rfl) (fun _ _ _ h => h) (Or.inr ⟨by rfl, rfl⟩) hHeld ?_
          try simp only [Act.put, List.setIfInBounds_toArray, List.set_cons_zero, List.set_cons_succ]
          refine wpAnyT_take (i := 18) (oi := { dst := some 75, op := Op.load 21 (Operand.tmp 74), type := 21, pos := "ref.go:86", after := #[{ on := 17, ground := Ground.data }, { on := 10, ground := Ground.guard }], guard := some (10, true) }) (v := undef) rfl (by kernel_rfl) (by kernel_rfl) (by kernel_rfl) (by kernel_rfl) (fun _ _ _ h => h) (Or.inr ⟨by rfl, rfl⟩) hHeld ?_
          try simp only [Act.put, List.setIfInBounds_toArray, List.set_cons_zero, List.set_cons_succ]
          refine wpAnyT_take (i := 19) (oi := { dst := some 76, op := Op.binOp BinOp.eql 21 (Operand.tmp 71) (Operand.tmp 75) 21, type := 4, pos := "ref.go:86", after := #[{ on := 14, ground := Ground.data }, { on := 18, ground := Ground.data }, { on := 10, ground := Ground.guard }], guard := some (10, true) }) (v := undef) rfl (by kernel_rfl) (by kernel_rfl) (by kernel_rfl) (by kernel_rfl) (fun _ _ _ h => h) (Or.inr ⟨by rfl, rfl⟩) hHeld ?_
          try simp only [Act.put, List.setIfInBounds_toArray, List.set_cons_zero, List.set_cons_succ]
          refine wpAnyT_take (i := 20) (oi := { dst := some 77, op := Op.pick (Operand.tmp 67) (Operand.tmp 76) (Operand.const (Value.bool false)), type := 4, pos := "ref.go:86", after := #[{ on := 10, ground := Ground.data }, { on := 19, ground := Ground.data }], guard := none }) (v := .bool false) rfl (by kernel_rfl) (by kernel_rfl) (by kernel_rfl) (by kernel_rfl) (fun _ _ _ h => h) (Or.inl ⟨by rfl, ?_⟩) hHeld ?_
          · intro w hSw
            skip
            first
              | rfl
              | (go_simp; done)
          try simp only [Act.put, List.setIfInBounds_toArray, List.set_cons_zero, List.set_cons_succ]
          refine wpAnyT_take (i := 21) (oi := { dst := some 56, op := Op.assign (Operand.tmp 77), type := 4, pos := "ref.go:86", after := #[{ on := 20, ground := Ground.data }, { on := 10, ground := Ground.chain }], guard := none }) (v := .bool false) rfl (by kernel_rfl) (by kernel_rfl) (by kernel_rfl) (by kernel_rfl) (fun _ _ _ h => h) (Or.inl ⟨by rfl, ?_⟩) hHeld ?_
          · intro w hSw
            skip
            first
              | rfl
              | (go_simp; done)
          try simp only [Act.put, List.setIfInBounds_toArray, List.set_cons_zero, List.set_cons_succ]
          refine wpAnyT_done (by kernel_rfl) ?_ _
          have HBw := hide ((unhide HBw).trans ((Below.refl wr.heap.size wr).drew.mono (unhide HBw).size))
          obtain ⟨wu, hws⟩ : ∃ z, wr.drew = z := ⟨_, rfl⟩
          rw [hws] at HBw ⊢
          clear hws
          go_wp2_with fail
          refine wp_region_T (S := fun W => Below wu.drew.heap.size wu.drew W) (fun i => decide (i < 30)) (by kernel_rfl) (Below.refl _ _) (fun hHeld => ?_)
          refine wpAnyT_take (i := 0) (oi := { dst := some 87, op := Op.move (Operand.tmp 12), type := 3, pos := "ref.go:90", after := #[], guard := none }) (v := .int .i64 (j : Int)) rfl (by kernel_rfl) (by kernel_rfl) (by kernel_rfl) (by kernel_rfl) (fun _ _ _ h => h) (Or.inl ⟨by rfl, ?_⟩) hHeld ?_
          · intro w hSw
            skip
            first
              | rfl
              | (go_simp; done)
          try simp only [Act.put, List.setIfInBounds_toArray, List.set_cons_zero, List.set_cons_succ]
          refine wpAnyT_take (i := 1) (oi := { dst := some 88, op := Op.move (Operand.tmp 8), type := 54, pos := "ref.go:90", after := #[], guard := none }) (v := .slice (some ⟨gb, 0, none⟩) m cb) rfl (by kernel_rfl) (by kernel_rfl) (by kernel_rfl) (by kernel_rfl) (fun _ _ _ h => h) (Or.inl ⟨by rfl, ?_⟩) hHeld ?_
          · intro w hSw
            skip
            first
              | rfl
              | (go_simp; done)
          try simp only [Act.put, List.setIfInBounds_toArray, List.set_cons_zero, List.set_cons_succ]
          refine wpAnyT_take (i := 2) (oi := { dst := some 89, op := Op.call { callee := Callee.builtin Builtin.len, args := #[Operand.tmp 88], argTypes := #[54] }, type := 3, pos := "ref.go:90", after := #[{ on := 1, ground := Ground.data }], guard := none }) (v := .int .i64 (m : Int)) rfl (by kernel_rfl) (by kernel_rfl) (by kernel_rfl) (by kernel_rfl) (fun _ _ _ h => h) (Or.inl ⟨by rfl, ?_⟩) hHeld ?_
          · intro w hSw
            skip
            first
              | rfl
              | (go_simp; done)
          try simp only [Act.put, List.setIfInBounds_toArray, List.set_cons_zero, List.set_cons_succ]
          refine wpAnyT_take (i := 3) (oi := { dst := some 90, op := Op.binOp BinOp.eql 3 (Operand.tmp 87) (Operand.tmp 89) 3, type := 4, pos := "ref.go:90", after := #[{ on := 0, ground := Ground.data }, { on := 2, ground := Ground.data }], guard := none }) (v := .bool false) rfl (by kernel_rfl) (by kernel_rfl) (by kernel_rfl) (by kernel_rfl) (fun _ _ _ h => h) (Or.inl ⟨by rfl, ?_⟩) hHeld ?_
          · intro w hSw
            skip
            first
              | rfl
              | (go_simp; done)
          try simp only [Act.put, List.setIfInBounds_toArray, List.set_cons_zero, List.set_cons_succ]
          refine wpAnyT_take (i := 4) (oi := { dst := some 91, op := Op.move (Operand.tmp 90), type := 4, pos := "ref.go:90", after := #[{ on := 3, ground := Ground.data }], guard := none }) (v := .bool false) rfl (by kernel_rfl) (by kernel_rfl) (by kernel_rfl) (by kernel_rfl) (fun _ _ _ h => h) (Or.inl ⟨by rfl, ?_⟩) hHeld ?_
          · intro w hSw
            skip
            first
              | rfl
              | (go_simp; done)
          try simp only [Act.put, List.setIfInBounds_toArray, List.set_cons_zero, List.set_cons_succ]
          refine wpAnyT_take (i := 5) (oi := { dst := some 92, op := Op.move (Operand.tmp 11), type := 3, pos := "ref.go:90", after := #[{ on := 4, ground := Ground.guard }], guard := some (4, false) }) (v := .int .i64 (i : Int)) rfl (by kernel_rfl) (by kernel_rfl) (by kernel_rfl) (by kernel_rfl) (fun _ _ _ h => h) (Or.inl ⟨by rfl, ?_⟩) hHeld ?_
          · intro w hSw
            skip
            first
              | rfl
              | (go_simp; done)
          try simp only [Act.put, List.setIfInBounds_toArray, List.set_cons_zero, List.set_cons_succ]
          refine wpAnyT_take (i := 6) (oi := { dst := some 93, op := Op.move (Operand.tmp 7), type := 54, pos := "ref.go:90", after := #[{ on := 4, ground := Ground.guard }], guard := some (4, false) }) (v := .slice aa i ca) rfl (by kernel_rfl) (by kernel_rfl) (by kernel_rfl) (by kernel_rfl) (fun _ _ _ h => h) (Or.inl ⟨by rfl, ?_⟩) hHeld ?_
          · intro w hSw
            skip
            first
              | rfl
              | (go_simp; done)
          try simp only [Act.put, List.setIfInBounds_toArray, List.set_cons_zero, List.set_cons_succ]
          refine wpAnyT_take (i := 7) (oi := { dst := some 94, op := Op.call { callee := Callee.builtin Builtin.len, args := #[Operand.tmp 93], argTypes := #[54] }, type := 3, pos := "ref.go:90", after := #[{ on := 6, ground := Ground.data }, { on := 4, ground := Ground.guard }], guard := some (4, false) }) (v := .int .i64 (i : Int)) rfl (by kernel_rfl) (by kernel_rfl) (by kernel_rfl) (by kernel_rfl) (fun _ _ _ h => h) (Or.inl ⟨by rfl, ?_⟩) hHeld ?_
          · intro w hSw
            skip
            first
              | rfl
              | (go_simp; done)
          try simp only [Act.put, List.setIfInBounds_toArray, List.set_cons_zero, List.set_cons_succ]
          refine wpAnyT_take (i := 8) (oi := { dst := some 95, op := Op.binOp BinOp.lss 3 (Operand.tmp 92) (Operand.tmp 94) 3, type := 4, pos := "ref.go:90", after := #[{ on := 5, ground := Ground.data }, { on := 7, ground := Ground.data }, { on := 4, ground := Ground.guard }], guard := some (4, false) }) (v := .bool false) rfl (by kernel_rfl) (by kernel_rfl) (by kernel_rfl) (by kernel_rfl) (fun _ _ _ h => h) (Or.inl ⟨by rfl, ?_⟩) hHeld ?_
          · intro w hSw
            skip
            first
              | rfl
              | (go_simp; done)
          try simp only [Act.put, List.setIfInBounds_toArray, List.set_cons_zero, List.set_cons_succ]
          refine wpAnyT_take (i := 9) (oi := { dst := some 96, op := Op.move (Operand.tmp 95), type := 4, pos := "ref.go:90", after := #[{ on := 8, ground := Ground.data }, { on := 4, ground := Ground.chain }, { on := 4, ground := Ground.guard }], guard := some (4, false) }) (v := .bool false) rfl (by kernel_rfl) (by kernel_rfl) (by kernel_rfl) (by kernel_rfl) (fun _ _ _ h => h) (Or.inl ⟨by rfl, ?_⟩) hHeld ?_
          · intro w hSw
            skip
            first
              | rfl
              | (go_simp; done)
          try simp only [Act.put, List.setIfInBounds_toArray, List.set_cons_zero, List.set_cons_succ]
          refine wpAnyT_take (i := 10) (oi := { dst := some 97, op := Op.move (Operand.tmp 9), type := 57, pos := "ref.go:90", after := #[{ on := 9, ground := Ground.guard }], guard := some (9, true) }) (v := undef) rfl (by kernel_rfl) (by kernel_rfl) (by kernel_rfl) (by kernel_rfl) (fun _ _ _ h => h) (Or.inr ⟨by rfl, rfl⟩) hHeld ?_
          try simp only [Act.put, List.setIfInBounds_toArray, List.set_cons_zero, List.set_cons_succ]
          refine wpAnyT_take (i := 11) (oi := { dst := some 98, op := Op.move (Operand.tmp 11), type := 3, pos := "ref.go:90", after := #[{ on := 9, ground := Ground.guard }], guard := some (9, true) }) (v := undef) rfl (by kernel_rfl) (by kernel_rfl) (by kernel_rfl) (by kernel_rfl) (fun _ _ _ h => h) (Or.inr ⟨by rfl, rfl⟩) hHeld ?_
          try simp only [Act.put, List.setIfInBounds_toArray, List.set_cons_zero, List.set_cons_succ]
          refine wpAnyT_take (i := 12) (oi := { dst := some 99, op := Op.binOp BinOp.add 3 (Operand.tmp 98) (Operand.const (Value.int IntKind.i64 1)) 3, type := 3, pos := "ref.go:90", after := #[{ on := 11, ground := Ground.data }, { on := 9, ground := Ground.guard }], guard := some (9, true) }) (v := undef) rfl (by kernel_rfl) (by kernel_rfl) (by kernel_rfl) (by kernel_rfl) (fun _ _ _ h => h) (Or.inr ⟨by rfl, rfl⟩) hHeld ?_
          try simp only [Act.put, List.setIfInBounds_toArray, List.set_cons_zero, List.set_cons_succ]
          refine wpAnyT_take (i := 13) (oi := { dst := some 100, op := Op.indexAddr 57 (Operand.tmp 97) (Operand.tmp 99), type := 0, pos := "ref.go:90", after := #[{ on := 10, ground := Ground.data }, { on := 12, ground := Ground.data }, { on := 9, ground := Ground.guard }], guard := some (9, true) }) (v := undef) rfl (by kernel_rfl) (by kernel_rfl) (by kernel_rfl) (by kernel_rfl) (fun _ _ _ h => h) (Or.inr ⟨by rfl, rfl⟩) hHeld ?_
          try simp only [Act.put, List.setIfInBounds_toArray, List.set_cons_zero, List.set_cons_succ]
          refine wpAnyT_take (i := 14) (oi := { dst := some 101, op := Op.load 59 (Operand.tmp 100), type := 59, pos := "ref.go:90", after := #[{ on := 13, ground := Ground.data }, { on := 9, ground := Ground.guard }], guard := some (9, true) }) (v := undef) rfl (by kernel_rfl) (by kernel_rfl) (by kernel_rfl) (by kernel_rfl) (fun _ _ _ h => h) (Or.inr ⟨by rfl, rfl⟩) hHeld ?_
          try simp only [Act.put, List.setIfInBounds_toArray, List.set_cons_zero, List.set_cons_succ]
          refine wpAnyT_take (i := 15) (oi := { dst := some 102, op := Op.move (Operand.tmp 12), type := 3, pos := "ref.go:90", after := #[{ on := 9, ground := Ground.guard }], guard := some (9, true) }) (v := undef) rfl (by kernel_rfl) (by kernel_rfl) (by kernel_rfl) (by kernel_rfl) (fun _ _ _ h => h) (Or.inr ⟨by rfl, rfl⟩) hHeld ?_
          try simp only [Act.put, List.setIfInBounds_toArray, List.set_cons_zero, List.set_cons_succ]
          refine wpAnyT_take (i := 16) (oi := { dst := some 103, op := Op.indexAddr 59 (Operand.tmp 101) (Operand.tmp 102), type := 0, pos := "ref.go:90", after := #[{ on := 14, ground := Ground.data }, { on := 15, ground := Ground.data }, { on := 9, ground := Ground.guard }], guard := some (9, true) }) (v := undef) rfl (by kernel_rfl) (by kernel_rfl) (by kernel_rfl) (by kernel_rfl) (fun _ _ _ h => h) (Or.inr ⟨by rfl, rfl⟩) hHeld ?_
          try simp only [Act.put, List.setIfInBounds_toArray, List.set_cons_zero, List.set_cons_succ]
          refine wpAnyT_take (i := 17) (oi := { dst := some 104, op := Op.load 3 (Operand.tmp 103), type := 3, pos := "ref.go:90", after := #[{ on := 16, ground := Ground.data }, { on := 9, ground := Ground.guard }], guard := some (9, true) }) (v := undef) rfl (by kernel_rfl) (by kernel_rfl) (by kernel_rfl) (by kernel_rfl) (fun _ _ _ h => h) (Or.inr ⟨by rfl, rfl⟩) hHeld ?_
          try simp only [Act.put, List.setIfInBounds_toArray, List.set_cons_zero, List.set_cons_succ]
          refine wpAnyT_take (i := 18) (oi := { dst := some 105, op := Op.move (Operand.tmp 9), type := 57, pos := "ref.go:90", after := #[{ on := 9, ground := Ground.guard }], guard := some (9, true) }) (v := undef) rfl (by kernel_rfl) (by kernel_rfl) (by kernel_rfl) (by kernel_rfl) (fun _ _ _ h => h) (Or.inr ⟨by rfl, rfl⟩) hHeld ?_
          try simp only [Act.put, List.setIfInBounds_toArray, List.set_cons_zero, List.set_cons_succ]
          refine wpAnyT_take (i := 19) (oi := { dst := some 106, op := Op.move (Operand.tmp 11), type := 3, pos := "ref.go:90", after := #[{ on := 9, ground := Ground.guard }], guard := some (9, true) }) (v := undef) rfl (by kernel_rfl) (by kernel_rfl) (by kernel_rfl) (by kernel_rfl) (fun _ _ _ h => h) (Or.inr ⟨by rfl, rfl⟩) hHeld ?_
          try simp only [Act.put, List.setIfInBounds_toArray, List.set_cons_zero, List.set_cons_succ]
          refine wpAnyT_take (i := 20) (oi := { dst := some 107, op := Op.indexAddr 57 (Operand.tmp 105) (Operand.tmp 106), type := 0, pos := "ref.go:90", after := #[{ on := 18, ground := Ground.data }, { on := 19, ground := Ground.data }, { on := 9, ground := Ground.guard }], guard := some (9, true) }) (v := undef) rfl (by kernel_rfl) (by kernel_rfl) (by kernel_rfl) (by kernel_rfl) (fun _ _ _ h => h) (Or.inr ⟨by rfl, rfl⟩) hHeld ?_
          try simp only [Act.put, List.setIfInBounds_toArray, List.set_cons_zero, List.set_cons_succ]
          refine wpAnyT_take (i := 21) (oi := { dst := some 108, op := Op.load 59 (Operand.tmp 107), type := 59, pos := "ref.go:90", after := #[{ on := 20, ground := Ground.data }, { on := 9, ground := Ground.guard }], guard := some (9, true) }) (v := undef) rfl (by kernel_rfl) (by kernel_rfl) (by kernel_rfl) (by kernel_rfl) (fun _ _ _ h => h) (Or.inr ⟨by rfl, rfl⟩) hHeld ?_
          try simp only [Act.put, List.setIfInBounds_toArray, List.set_cons_zero, List.set_cons_succ]
          refine wpAnyT_take (i := 22) (oi := { dst := some 109, op := Op.move (Operand.tmp 12), type := 3, pos := "ref.go:90", after := #[{ on := 9, ground := Ground.guard }], guard := some (9, true) }) (v := undef) rfl (by kernel_rfl) (by kernel_rfl) (by kernel_rfl) (by kernel_rfl) (fun _ _ _ h => h) (Or.inr ⟨by rfl, rfl⟩) hHeld ?_
          try simp only [Act.put, List.setIfInBounds_toArray, List.set_cons_zero, List.set_cons_succ]
          refine wpAnyT_take (i := 23) (oi := { dst := some 110, op := Op.binOp BinOp.add 3 (Operand.tmp 109) (Operand.const (Value.int IntKind.i64 1)) 3, type := 3, pos := "ref.go:90", after := #[{ on := 22, ground := Ground.data }, { on := 9, ground := Ground.guard }], guard := some (9, true) }) (v := undef) rfl (by kernel_rfl) (by kernel_rfl) (by kernel_rfl) (by kernel_rfl) (fun _ _ _ h => h) (Or.inr ⟨by rfl, rfl⟩) hHeld ?_
          try simp only [Act.put, List.setIfInBounds_toArray, List.set_cons_zero, List.set_cons_succ]
          refine wpAnyT_take (i := 24) (oi := { dst := some 111, op := Op.indexAddr 59 (Operand.tmp 108) (Operand.tmp 110), type := 0, pos := "ref.go:90", after := #[{ on := 21, ground := Ground.data }, { on := 23, ground := Ground.data }, { on := 9, ground := Ground.guard }], guard := some (9, true) }) (v := undef) rfl (by kernel_rfl) (by kernel_rfl) (by kernel_rfl) (by kernel_rfl) (fun _ _ _ h => h) (Or.inr ⟨by rfl, rfl⟩) hHeld ?_
          try simp only [Act.put, List.setIfInBounds_toArray, List.set_cons_zero, List.set_cons_succ]
          refine wpAnyT_take (i := 25) (oi := { dst := some 112, op := Op.load 3 (Operand.tmp 111), type := 3, pos := "ref.go:90", after := #[{ on := 24, ground := Ground.data }, { on := 9, ground := Ground.guard }], guard := some (9, true) }) (v := undef) rfl (by kernel_rfl) (by kernel_rfl) (by kernel_rfl) (by kernel_rfl) (fun _ _ _ h => h) (Or.inr ⟨by rfl, rfl⟩) hHeld ?_
          try simp only [Act.put, List.setIfInBounds_toArray, List.set_cons_zero, List.set_cons_succ]
          refine wpAnyT_take (i := 26) (oi := { dst := some 113, op := Op.binOp BinOp.geq 3 (Operand.tmp 104) (Operand.tmp 112) 3, type := 4, pos := "ref.go:90", after := #[{ on := 17, ground := Ground.data }, { on := 25, ground := Ground.data }, { on := 9, ground := Ground.guard }], guard := some (9, true) }) (v := undef) rfl (by kernel_rfl) (by kernel_rfl) (by kernel_rfl) (by kernel_rfl) (fun _ _ _ h => h) (Or.inr ⟨by rfl, rfl⟩) hHeld ?_
          try simp only [Act.put, List.setIfInBounds_toArray, List.set_cons_zero, List.set_cons_succ]
          refine wpAnyT_take (i := 27) (oi := { dst := some 114, op := Op.pick (Operand.tmp 96) (Operand.tmp 113) (Operand.const (Value.bool false)), type := 4, pos := "ref.go:90", after := #[{ on := 9, ground := Ground.data }, { on := 26, ground := Ground.data }, { on := 4, ground := Ground.guard }], guard := some (4, false) }) (v := .bool false) rfl (by kernel_rfl) (by kernel_rfl) (by kernel_rfl) (by kernel_rfl) (fun _ _ _ h => h) (Or.inl ⟨by rfl, ?_⟩) hHeld ?_
          · intro w hSw
            skip
            first
              | rfl
              | (go_simp; done)
          try simp only [Act.put, List.setIfInBounds_toArray, List.set_cons_zero, List.set_cons_succ]
          refine wpAnyT_take (i := 28) (oi := { dst := some 115, op := Op.pick (Operand.tmp 91) (Operand.const (Value.bool true)) (Operand.tmp 114), type := 4, pos := "ref.go:90", after := #[{ on := 4, ground := Ground.data }, { on := 27, ground := Ground.data }], guard := none }) (v := .bool false) rfl (by kernel_rfl) (by kernel_rfl) (by kernel_rfl) (by kernel_rfl) (fun _ _ _ h => h) (Or.inl ⟨by rfl, ?_⟩) hHeld ?_
          · intro w hSw
            skip
            first
              | rfl
              | (go_simp; done)
          try simp only [Act.put, List.setIfInBounds_toArray, List.set_cons_zero, List.set_cons_succ]
          refine wpAnyT_take (i := 29) (oi := { dst := some 86, op := Op.assign (Operand.tmp 115), type := 4, pos := "ref.go:90", after := #[{ on := 28, ground := Ground.data }, { on := 9, ground := Ground.chain }], guard := none }) (v := .bool false) rfl (by kernel_rfl) (by kernel_rfl) (by kernel_rfl) (by kernel_rfl) (fun _ _ _ h => h) (Or.inl ⟨by rfl, ?_⟩) hHeld ?_
          · intro w hSw
            skip
            first
              | rfl
              | (go_simp; done)
          try simp only [Act.put, List.setIfInBounds_toArray, List.set_cons_zero, List.set_cons_succ]
          refine wpAnyT_done (by kernel_rfl) ?_ _
          have HBw := hide ((unhide HBw).trans ((Below.refl wu.heap.size wu).drew.mono (unhide HBw).size))
          obtain ⟨ws, hws⟩ : ∃ z, wu.drew = z := ⟨_, rfl⟩
          rw [hws] at HBw ⊢
          clear hws
          have hcb := kept (unhide HBw) hcb
          have hal : Below ws.heap.size ws (ws.alloc (.cells #[.int .i64 2, .int .i64 1, .string S] 39)) := (Below.refl _ _).alloc (Nat.le_refl _) _
          have HAL := hide ((unhide HBw).trans (hal.mono (unhide HBw).size))
          have HS2 : Hid ((ws.alloc (.cells #[.int .i64 2, .int .i64 1, .string S] 39)).ownsRow w.heap.size 39 3 (.slice a2 q c2) q (ptc L)) := hide (by have h9 := own_call (unhide HL).out (unhide HAL); rw [unhide HLQ] at h9; exact h9)
          have HB2 := hide ((unhide HL).bel.trans ((unhide HAL).mono (unhide HL).bel.size))
          have HC2 := hide (RowAt.new ws 39 [.int .i64 2, .int .i64 1, .string S])
          clear hal
          go_wp2_with (at_builtin; refine unhide ?_)
          obtain ⟨i9, hi9, hz9, hs9, hb9⟩ := info_parts infoPt
          refine hide ?_
          refine wpList_append_own_at _ rfl _ _ 24 rfl w.heap.size 39 i9 (.agg #[.int .i64 0, .int .i64 0, .string ⟨#[]⟩]) 3 32 Tryd.underlying24 hi9 hz9 hs9 hb9 rfl (by decide) (.slice a2 q c2) q (ptc L) rfl (unhide HS2) ⟨ws.heap.size, 0, none⟩ 1 1 [.int .i64 2, .int .i64 1, .string S] rfl rfl (fun j u hj => by
            have h9 := (unhide HC2).cell j
            rw [hj] at h9
            rw [Addr.add_lit, Nat.zero_add]
            exact h9) (fun u hu => by
            simp only [List.mem_cons, List.not_mem_nil, or_false] at hu
            rcases hu with rfl | rfl | rfl <;> rfl) (by unfold maxLen; omega) (by omega) (unhide HB2).size ?_
          intro v' w3 ho hg _ _
          obtain ⟨a4, c4, rfl, _, _⟩ := own_sl3 ho
          have HL2 := hide ((unhide HL).step (i' := i) (j' := j + 1) (p := ⟨2, 1, S⟩) (unhide HAL) hg (by rw [unhide HLQ]; exact ho) (by rw [show ([⟨2, 1, S⟩] : List Pt) = [⟨2, ((1 : Nat) : Int), S⟩] from rfl, one_p (n := 1) (unhide HST) (by rfl) (by omega), unhide HK]; rfl) (by omega) (by show 4 * j + S.size ≤ 4 * (j + 1); omega))
          clear ho hg HL HS2 HB2 HC2 HAL HBw i9 hi9 hz9 hs9 hb9
          go_wp2_with fail
          have hl9 : (L ++ [(⟨2, 1, S⟩ : Pt)]).length = q + 1 := by rw [List.length_append, unhide HLQ]; rfl
          exact ⟨⟨s + 1, i, j + 1, a4, c4, _, by omega, by omega, by omega, by simp, by first | (simp; done) | (simp; omega), by first | (simp; done) | (simp; omega), by have h9 := unhide HSIJ; omega, by rw [hl9], by rw [hl9]; exact HL2⟩, by simp [intOf]; omega⟩
        · obtain rfl : j = m := by omega
          clear hi hj ci cj
          go_wp2_with fail
          exact ⟨⟨s + 1, i, j, a2, c2, L, by omega, by omega, by omega, by simp, by simp, by simp, .inr ⟨rfl, rfl⟩, by rw [unhide HLQ], by rw [unhide HLQ]; exact HL⟩, by simp [intOf]; omega⟩
    · obtain ⟨hie, hje⟩ : i = n ∧ j = m := by
        rcases unhide HSIJ with h9 | h9
        · omega
        · exact h9
      subst hie hje
      have hend2 := (unhide HL).eq
      rw [← unhide HN, List.drop_length, ← unhide HM, List.drop_length] at hend2
      rw [show leadA [] [] = [] by rw [leadA], List.append_nil] at hend2
      obtain ⟨a5, c5, e5, hp5, _, _⟩ := (unhide HL).out.slice
      rw [unhide HLQ] at e5
      injection e5 with e5 _ e6
      subst e5 e6
      have hst := (unhide HL).txt
      have hB := (unhide HL).bel
      have KN := hide (rnorm_any a2 L c2 wr hp5 (by rw [unhide HLQ]; omega) (by omega))
      have HG := hide (rnorm_good L)
      rw [hend2] at HG
      rw [unhide HLQ] at KN
      have HB := hide hB
      clear hend2 hp5 hst hB HL
      go_wp2_with fail
      refine Calls.mono (unhide KN) ?_
      rintro r w9 ⟨v9, rfl, ho9, b9⟩
      have HO9 := hide (own_base ho9 (unhide HB).size)
      have B9 := hide ((unhide HB).trans (b9.mono (unhide HB).size))
      clear ho9 b9 KN
      go_wp2_with fail
      go_ret2
      exact ⟨.inr ⟨unhide HE, x, y, _, _, (unhide HX).1, (unhide HX).2.1, (unhide HX).2.2.1, (unhide HX).2.2.2, rfl, unhide HO9, (unhide HG).1, (unhide HG).2⟩, unhide B9⟩
end Go.Proofs.YtonabfpgdgnpnaaDoor
