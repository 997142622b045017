/- Parts of the walk: DRw, One0. -/
import Derived.Test.YtonabfpgdgnpnaaDoorMz09
import Derived.Test.YtonabfpgdgnpnaaDoorMz02
namespace Go.Proofs.YtonabfpgdgnpnaaDoor
set_option linter.unusedVariables false
set_option linter.unusedSimpArgs false
open Go.ChangeShapes Go.WideShapes Go.ChangeAt Go.RowKit Go.Joins Go.Deep

def RwsR (x y : List CP) (w : World) (r : Ending) (w' : World) : Prop := ∃ v vs X, r = .returned v ∧ RR w' w.heap.size v vs X ∧ TX x y X 0 ∧ Below w.heap.size w w'
set_option maxRecDepth 100000 in
set_option maxHeartbeats 4000000 in
theorem rrows_any (Ba Bb : Nat) (va vb : Value) (x y : List CP) (w : World) (hx : Cps x) (hy : Cps y) (ha : w.ownsRow Ba 21 1 va x.length (rnv x)) (hb : w.ownsRow Bb 21 1 vb y.length (rnv y)) (hxl : x.length ≤ 1024) (hyl : y.length ≤ 1024) : Calls Tryd.prog 33 #[va, vb] w fun r w' => RwsR x y w r w' := by
  obtain ⟨aa, ca, rfl, hca1, hca2⟩ := own_sl ha
  obtain ⟨ab, cb, rfl, hcb1, hcb2⟩ := own_sl hb
  have HC := hide (And.intro hx hy)
  have HAB := hide (And.intro ha hb)
  obtain ⟨n, hn⟩ : ∃ z, x.length = z := ⟨_, rfl⟩
  obtain ⟨m, hm⟩ : ∃ z, y.length = z := ⟨_, rfl⟩
  obtain ⟨m1, hm1⟩ : ∃ z, m + 1 = z := ⟨_, rfl⟩
  have HN := hide hn
  have HM := hide hm
  have HM1 := hide hm1
  have hm1I : (m : Int) + 1 = (m1 : Int) := by omega
  rw [hn] at hxl hca1 HAB
  rw [hm] at hyl hcb1 HAB
  rw [hn, hm]
  obtain ⟨w1, hmk, how, hb1⟩ := mk_nums w m1 (by omega)
  have hal : Below w1.heap.size w1 (w1.alloc (.cells #[.slice (some ⟨w.heap.size, 0, none⟩) m1 m1] 59)) := (Below.refl _ _).alloc (Nat.le_refl _) _
  have B1 := hide (hb1.trans (hal.mono hb1.size))
  have R1 : Hid (RR (w1.alloc (.cells #[.slice (some ⟨w.heap.size, 0, none⟩) m1 m1] 59)) w.heap.size (.slice (some ⟨w1.heap.size, 0, none⟩) 1 1) [.slice (some ⟨w.heap.size, 0, none⟩) m1 m1] [List.replicate m1 0]) := hide ⟨own_row (RowAt.new w1 59 [.slice (some ⟨w.heap.size, 0, none⟩) m1 m1]) hb1.size (by show 1 ≤ maxLen; unfold maxLen; omega), fun i u z h1 h2 => by
    match i, h1, h2 with
    | 0, h1, h2 =>
      obtain rfl : (.slice (some ⟨w.heap.size, 0, none⟩) m1 m1 : Value) = u := by simpa using h1
      obtain rfl : List.replicate m1 0 = z := by simpa using h2
      have := own_call how hal
      rw [List.length_replicate]
      exact this
    | i + 1, h1, h2 => simp at h1⟩
  have T1 : Hid (TX x y [List.replicate m1 0] n) := hide (by have := TX.start x y; rw [unhide HM, unhide HN, unhide HM1] at this; exact this)
  clear hal how hb1 ha hb hx hy hn hm hm1
  go_enter Tryd.func33, Tryd.ntmps33
  go_wp2_with fail
  go_loopw [5, 19] (fun tv iv wr => ∃ (k nX c : Nat) (a : Option Addr), k ≤ n ∧ iv = .int .i64 (k : Int) ∧ tv = .slice a nX c ∧ Hid (∃ vs X, X.length = nX ∧ RR wr w.heap.size (.slice a nX c) vs X ∧ TX x y X (n - k)) ∧ Hid (Below w.heap.size w wr)) (fun _ iv _ => ((n : Int) - intOf iv).toNat)
  case atStart => exact ⟨0, 1, 1, _, by omega, by simp, rfl, hide ⟨_, _, rfl, unhide R1, by rw [Nat.sub_zero]; exact unhide T1⟩, B1⟩
  case round =>
    clear R1 T1 B1 hmk
    obtain ⟨k, nX, c, a, hk, rfl, rfl, HR, HB⟩ := hrel
    by_cases c1 : (k : Int) < (n : Int)
    · obtain ⟨wo, hwo⟩ : ∃ z, z = wr := ⟨_, rfl⟩
      subst hwo
      obtain ⟨vs, X, hXl, hRR, hTX⟩ := unhide HR
      obtain ⟨p, hp⟩ : ∃ p, p + k + 1 = n := ⟨n - 1 - k, by omega⟩
      have hpI : (n : Int) - 1 - (k : Int) = (p : Int) := by omega
      have p0 : (0 : Int) ≤ (p : Int) := by omega
      have pn : (p : Int) < (n : Int) := by omega
      have hnk : n - k = p + 1 := by omega
      rw [hnk] at hTX
      have hX0 := hTX.2 0 (by rw [unhide HN]; omega)
      obtain ⟨u, hu, hul⟩ := hRR.at_ hX0
      rw [lrow_len, unhide HM, unhide HM1, Nat.add_zero] at hul
      obtain ⟨gv, cv, e, hcv, hnX, _, _⟩ := own_rd hRR.own hu
      rw [hXl] at e hnX
      injection e with e1 _ e3
      subst e1 e3
      obtain ⟨gl, cl, e, _, _, _, _⟩ := own_rd hul (nsv_get (lrow_at (Nat.zero_le _)))
      subst e
      obtain ⟨cc, hcc⟩ : ∃ z, x[p]? = some z := ⟨_, List.getElem?_eq_getElem (by rw [unhide HN]; omega)⟩
      have hra := own_call (unhide HAB).1 (unhide HB)
      obtain ⟨ga, ca2, e, hca, _, _, _⟩ := own_rd hra (rnv_at hcc)
      injection e with e1 _ e3
      subst e1 e3
      obtain ⟨z, hz⟩ : ∃ z : Int, (rn cc : Int) = z := ⟨_, rfl⟩
      rw [hz] at hca
      have HZ := hide (And.intro hcc hz)
      obtain ⟨w3, hmk, how, hb3⟩ := mk_nums wo m1 (by omega)
      have HI3 : Hid (IW wo w3 wo.heap.size m1 (List.replicate m1 0)) := hide ⟨how, hb3, Nat.le_refl _⟩
      have HL3 : Hid (LRI x y p (m - 0) (List.replicate m1 0)) := hide (by have := LRI.start x y p; rw [unhide HM, unhide HM1] at this; rw [Nat.sub_zero]; exact this)
      have HRX := hide (And.intro hXl (And.intro hRR (And.intro hTX hul)))
      have HP := hide hp
      have nX1 : (1 : Int) ≤ (nX : Int) := by omega
      have nX0 : (0 : Int) < (nX : Int) := by omega
      clear hXl hRR hTX hX0 hu hul hcc hz hra how hb3 HR hnk hp hnX
      obtain ⟨gR, hgR⟩ : ∃ z, wo.heap.size = z := ⟨_, rfl⟩
      have HGR := hide hgR
      rw [hgR] at hmk HI3
      clear hgR
      go_wp2_with fail
      go_loopw [39] (fun iv wr => ∃ (j : Nat) (R : List Nat), j ≤ m ∧ iv = .int .i64 (j : Int) ∧ Hid (LRI x y p (m - j) R) ∧ Hid (IW wo wr gR m1 R)) (fun iv _ => ((m : Int) - intOf iv).toNat)
      case atStart => exact ⟨0, _, by omega, by simp, HL3, HI3⟩
      case round =>
        clear HL3 HI3 hmk
        obtain ⟨j, R, hj, rfl, HL, HI⟩ := hrel
        by_cases c2 : (j : Int) < (m : Int)
        · skip
          obtain ⟨q, hq⟩ : ∃ q, q + j + 1 = m := ⟨m - 1 - j, by omega⟩
          obtain ⟨q1, hq1⟩ : ∃ z, q + 1 = z := ⟨_, rfl⟩
          have hqI : (m : Int) - 1 - (j : Int) = (q : Int) := by omega
          have hq1I : (q : Int) + 1 = (q1 : Int) := by omega
          have q0 : (0 : Int) ≤ (q : Int) := by omega
          have q10 : (0 : Int) ≤ (q1 : Int) := by omega
          have qm : (q : Int) < (m : Int) := by omega
          have qm1 : (q : Int) < (m1 : Int) := by omega
          have q1m1 : (q1 : Int) < (m1 : Int) := by omega
          have hwq1 : IntKind.i64.wrap (q1 : Int) = (q1 : Int) := by rw [IntKind.wrap_i64] <;> omega
          have hmj : m - j = q + 1 := by omega
          rw [hmj] at HL
          have hul := own_call (unhide HRX).2.2.2 (unhide HI).drew.bel
          obtain ⟨A, hAA⟩ : ∃ z, lcs (x.drop (p + 1)) (y.drop q) = z := ⟨_, rfl⟩
          obtain ⟨C, hCC⟩ : ∃ z, lcs (x.drop p) (y.drop (q + 1)) = z := ⟨_, rfl⟩
          obtain ⟨V, hV⟩ : ∃ z, max A C = z := ⟨_, rfl⟩
          have hVI : max (A : Int) (C : Int) = (V : Int) := by omega
          have hA := row_cell hul (nsv_get (lrow_at (x := x) (y := y) (p := p + 1) (j := q) (by rw [unhide HM]; omega)))
          have hB := row_cell (unhide HI).drew.own (nsv_get ((unhide HL).2 (q + 1) (Nat.le_refl _) (by rw [unhide HM]; omega)))
          rw [hAA] at hA
          rw [hCC, hq1] at hB
          obtain ⟨O, hO⟩ : ∃ z, R[q]? = some z := ⟨_, List.getElem?_eq_getElem (by rw [(unhide HL).1, unhide HM]; omega)⟩
          have hRc := row_cell (unhide HI).drew.own (nsv_get hO)
          have hRf := own_fr (unhide HI).drew.own q
          have HI4 := hide ((unhide HI).drew.set (i := q) (by omega) V)
          have HQ := hide (And.intro hq (And.intro hq1 (And.intro hmj (And.intro hAA (And.intro hCC hV)))))
          have hAC : A ≤ 1024 ∧ C ≤ 1024 := ⟨by rw [← hAA]; exact lcs_small (by rw [unhide HN]; omega) _ _, by rw [← hCC]; exact lcs_small (by rw [unhide HN]; omega) _ _⟩
          have hV1 : V ≤ 1024 := by omega
          clear hq hq1 hmj hAA hCC hV hul hO hAC
          go_wp2_with fail
          refine wp_region_T (S := fun W => Below wr.drew.heap.size wr.drew W) (fun i => decide (i < 13)) (by kernel_rfl) (Below.refl _ _) (fun hHeld => ?_)
          refine tk 0 (v := .slice (some ⟨gR, 0, none⟩) m1 m1) rfl (Or.inl ⟨by rfl, ?_⟩) hHeld ?_
          · intro w hSw
            have xa := kept hSw hA
            have xb := kept hSw hB
            first
              | rfl
              | (go_simp; done)
          try go_frame
          refine tk 1 (v := .int .i64 (q : Int)) rfl (Or.inl ⟨by rfl, ?_⟩) hHeld ?_
          · intro w hSw
            have xa := kept hSw hA
            have xb := kept hSw hB
            first
              | rfl
              | (go_simp; done)
          try go_frame
          refine tk 2 (v := .slice (some ⟨gl, 0, none⟩) m1 cl) rfl (Or.inl ⟨by rfl, ?_⟩) hHeld ?_
          · intro w hSw
            have xa := kept hSw hA
            have xb := kept hSw hB
            first
              | rfl
              | (go_simp; done)
          try go_frame
          refine tk 3 (v := .int .i64 (q : Int)) rfl (Or.inl ⟨by rfl, ?_⟩) hHeld ?_
          · intro w hSw
            have xa := kept hSw hA
            have xb := kept hSw hB
            first
              | rfl
              | (go_simp; done)
          try go_frame
          refine tk 4 (v := .pointer (some ⟨gl, q, none⟩)) rfl (Or.inl ⟨by rfl, ?_⟩) hHeld ?_
          · intro w hSw
            have xa := kept hSw hA
            have xb := kept hSw hB
            first
              | rfl
              | (go_simp; done)
          try go_frame
          refine tk 5 (v := .int .i64 (A : Int)) rfl (Or.inl ⟨by rfl, ?_⟩) hHeld ?_
          · intro w hSw
            have xa := kept hSw hA
            have xb := kept hSw hB
            first
              | rfl
              | (go_simp; done)
          try go_frame
          refine tk 6 (v := .slice (some ⟨gR, 0, none⟩) m1 m1) rfl (Or.inl ⟨by rfl, ?_⟩) hHeld ?_
          · intro w hSw
            have xa := kept hSw hA
            have xb := kept hSw hB
            first
              | rfl
              | (go_simp; done)
          try go_frame
          refine tk 7 (v := .int .i64 (q : Int)) rfl (Or.inl ⟨by rfl, ?_⟩) hHeld ?_
          · intro w hSw
            have xa := kept hSw hA
            have xb := kept hSw hB
            first
              | rfl
              | (go_simp; done)
          try go_frame
          refine tk 8 (v := .int .i64 (q1 : Int)) rfl (Or.inl ⟨by rfl, ?_⟩) hHeld ?_
          · intro w hSw
            have xa := kept hSw hA
            have xb := kept hSw hB
            first
              | rfl
              | (go_simp; done)
          try go_frame
          refine tk 9 (v := .pointer (some ⟨gR, q1, none⟩)) rfl (Or.inl ⟨by rfl, ?_⟩) hHeld ?_
          · intro w hSw
            have xa := kept hSw hA
            have xb := kept hSw hB
            first
              | rfl
              | (go_simp; done)
          try go_frame
          refine tk 10 (v := .int .i64 (C : Int)) rfl (Or.inl ⟨by rfl, ?_⟩) hHeld ?_
          · intro w hSw
            have xa := kept hSw hA
            have xb := kept hSw hB
            first
              | rfl
              | (go_simp; done)
          try go_frame
          refine tk 11 (v := .int .i64 (V : Int)) rfl (Or.inl ⟨by rfl, ?_⟩) hHeld ?_
          · intro w hSw
            have xa := kept hSw hA
            have xb := kept hSw hB
            first
              | rfl
              | (go_simp; done)
          try go_frame
          refine tk 12 (v := .pointer (some ⟨gR, q, none⟩)) rfl (Or.inl ⟨by rfl, ?_⟩) hHeld ?_
          · intro w hSw
            have xa := kept hSw hA
            have xb := kept hSw hB
            first
              | rfl
              | (go_simp; done)
          try go_frame
          refine wpAnyT_one (i := 13) (o := { dst := none, op := Op.store 3 (Operand.tmp 59) (Operand.tmp 58), type := 0, pos := "ref.go:56", after := #[{ on := 12, ground := Ground.data }, { on := 11, ground := Ground.data }, { on := 0, ground := Ground.phase }, { on := 1, ground := Ground.phase }, { on := 2, ground := Ground.phase }, { on := 3, ground := Ground.phase }, { on := 4, ground := Ground.phase }, { on := 5, ground := Ground.phase }, { on := 6, ground := Ground.phase }, { on := 7, ground := Ground.phase }, { on := 8, ground := Ground.phase }, { on := 9, ground := Ground.phase }, { on := 10, ground := Ground.phase }, { on := 11, ground := Ground.phase }], guard := none }) (by kernel_rfl) rfl (fun K hK => ?_)
          go_simp
          refine hK.out _ _ (fun h => by cases h) ?_
          clear hK K
          try go_frame
          refine wpAnyT_done (by kernel_rfl) ?_ _
          obtain ⟨w4, hw4⟩ : ∃ z, (wr.setCell ⟨gR, q, none⟩ (.int .i64 (V : Int))).drew = z := ⟨_, rfl⟩
          have HI4 : Hid (IW wo w4 gR m1 (R.set q V)) := by rw [← hw4]; exact HI4
          rw [hw4]
          clear hw4 hA hB hRc hRf HI
          have hRb := own_call (unhide HAB).2 ((unhide HB).trans ((unhide HI4).bel.mono (unhide HB).size))
          obtain ⟨d, hd⟩ : ∃ z, y[q]? = some z := ⟨_, List.getElem?_eq_getElem (by rw [unhide HM]; omega)⟩
          obtain ⟨gb, cb2, e, hcb, _, _, _⟩ := own_rd hRb (rnv_at hd)
          injection e with e1 _ e3
          subst e1 e3
          obtain ⟨yd, hyd⟩ : ∃ z : Int, (rn d : Int) = z := ⟨_, rfl⟩
          rw [hyd] at hcb
          have HY := hide (And.intro hd hyd)
          have hul := own_call (unhide HRX).2.2.2 (unhide HI4).drew.bel
          obtain ⟨D, hDD⟩ : ∃ z, lcs (x.drop (p + 1)) (y.drop (q + 1)) = z := ⟨_, rfl⟩
          have hBx := row_cell hul (nsv_get (lrow_at (x := x) (y := y) (p := p + 1) (j := q + 1) (by rw [unhide HM]; omega)))
          rw [hDD, (unhide HQ).2.1] at hBx
          have HBX := hide hBx
          have HDD := hide hDD
          have hD1 : D ≤ 1024 := by rw [← hDD]; exact lcs_small (by rw [unhide HN]; omega) _ _
          clear hd hyd hRb hDD hBx hul
          by_cases hcd : yd = z
          · have h10 : (yd == z) = true := by simp [hcd]
            have hccd : cc = d := rn_inj ((unhide HC).1 cc (List.mem_of_getElem? (unhide HZ).1)) ((unhide HC).2 d (List.mem_of_getElem? (unhide HY).1)) (by have := (unhide HZ).2; have := (unhide HY).2; omega)
            obtain ⟨D1, hD1'⟩ : ∃ z, D + 1 = z := ⟨_, rfl⟩
            obtain ⟨V2, hV2⟩ : ∃ z, max V D1 = z := ⟨_, rfl⟩
            have hDI : (D : Int) + 1 = (D1 : Int) := by omega
            have hwD1 : IntKind.i64.wrap (D1 : Int) = (D1 : Int) := by rw [IntKind.wrap_i64] <;> omega
            have hV2I : max (V : Int) (D1 : Int) = (V2 : Int) := by omega
            have HL5 : Hid (LRI x y p (m - (j + 1)) ((R.set q V).set q V2)) := hide (by
              have e1 := (unhide HQ).1
              rw [show m - (j + 1) = q by omega, List.set_set]
              refine (unhide HL).put (by rw [unhide HM]; omega) ?_
              have h9 := lcs_hit (unhide HZ).1 (by rw [hccd]; exact (unhide HY).1)
              rw [(unhide HQ).2.2.2.1, (unhide HQ).2.2.2.2.1, unhide HDD, (unhide HQ).2.2.2.2.2, hD1', hV2] at h9
              exact h9)
            have hRc := row_cell (unhide HI4).drew.own (i := q) (u := .int .i64 (V : Int)) (nsv_get (by rw [List.getElem?_set_self (by rw [(unhide HL).1, unhide HM]; omega)]))
            have hRf := own_fr (unhide HI4).drew.own q
            have hA := hRc
            have hB : w4.drew.cell? ⟨gl, q1, none⟩ = some (.int .i64 (D : Int)) := unhide HBX
            have HI5 := hide ((unhide HI4).drew.set (i := q) (by omega) V2)
            clear hcd hccd hD1' hV2
            go_wp2_with fail
            refine wp_region_T (S := fun W => Below w4.drew.heap.size w4.drew W) (fun i => decide (i < 14)) (by kernel_rfl) (Below.refl _ _) (fun hHeld => ?_)
            refine tk 0 (v := .slice (some ⟨gR, 0, none⟩) m1 m1) rfl (Or.inl ⟨by rfl, ?_⟩) hHeld ?_
            · intro w hSw
              have xa := kept hSw hA
              have xb := kept hSw hB
              first
                | rfl
                | (go_simp; done)
            try go_frame
            refine tk 1 (v := .int .i64 (q : Int)) rfl (Or.inl ⟨by rfl, ?_⟩) hHeld ?_
            · intro w hSw
              have xa := kept hSw hA
              have xb := kept hSw hB
              first
                | rfl
                | (go_simp; done)
            try go_frame
            refine tk 2 (v := .slice (some ⟨gR, 0, none⟩) m1 m1) rfl (Or.inl ⟨by rfl, ?_⟩) hHeld ?_
            · intro w hSw
              have xa := kept hSw hA
              have xb := kept hSw hB
              first
                | rfl
                | (go_simp; done)
            try go_frame
            refine tk 3 (v := .int .i64 (q : Int)) rfl (Or.inl ⟨by rfl, ?_⟩) hHeld ?_
            · intro w hSw
              have xa := kept hSw hA
              have xb := kept hSw hB
              first
                | rfl
                | (go_simp; done)
            try go_frame
            refine tk 4 (v := .pointer (some ⟨gR, q, none⟩)) rfl (Or.inl ⟨by rfl, ?_⟩) hHeld ?_
            · intro w hSw
              have xa := kept hSw hA
              have xb := kept hSw hB
              first
                | rfl
                | (go_simp; done)
            try go_frame
            refine tk 5 (v := .int .i64 (V : Int)) rfl (Or.inl ⟨by rfl, ?_⟩) hHeld ?_
            · intro w hSw
              have xa := kept hSw hA
              have xb := kept hSw hB
              first
                | rfl
                | (go_simp; done)
            try go_frame
            refine tk 6 (v := .slice (some ⟨gl, 0, none⟩) m1 cl) rfl (Or.inl ⟨by rfl, ?_⟩) hHeld ?_
            · intro w hSw
              have xa := kept hSw hA
              have xb := kept hSw hB
              first
                | rfl
                | (go_simp; done)
            try go_frame
            refine tk 7 (v := .int .i64 (q : Int)) rfl (Or.inl ⟨by rfl, ?_⟩) hHeld ?_
            · intro w hSw
              have xa := kept hSw hA
              have xb := kept hSw hB
              first
                | rfl
                | (go_simp; done)
            try go_frame
            refine tk 8 (v := .int .i64 (q1 : Int)) rfl (Or.inl ⟨by rfl, ?_⟩) hHeld ?_
            · intro w hSw
              have xa := kept hSw hA
              have xb := kept hSw hB
              first
                | rfl
                | (go_simp; done)
            try go_frame
            refine tk 9 (v := .pointer (some ⟨gl, q1, none⟩)) rfl (Or.inl ⟨by rfl, ?_⟩) hHeld ?_
            · intro w hSw
              have xa := kept hSw hA
              have xb := kept hSw hB
              first
                | rfl
                | (go_simp; done)
            try go_frame
            refine tk 10 (v := .int .i64 (D : Int)) rfl (Or.inl ⟨by rfl, ?_⟩) hHeld ?_
            · intro w hSw
              have xa := kept hSw hA
              have xb := kept hSw hB
              first
                | rfl
                | (go_simp; done)
            try go_frame
            refine tk 11 (v := .int .i64 (D1 : Int)) rfl (Or.inl ⟨by rfl, ?_⟩) hHeld ?_
            · intro w hSw
              have xa := kept hSw hA
              have xb := kept hSw hB
              first
                | rfl
                | (go_simp; done)
            try go_frame
            refine tk 12 (v := .int .i64 (V2 : Int)) rfl (Or.inl ⟨by rfl, ?_⟩) hHeld ?_
            · intro w hSw
              have xa := kept hSw hA
              have xb := kept hSw hB
              first
                | rfl
                | (go_simp; done)
            try go_frame
            refine tk 13 (v := .pointer (some ⟨gR, q, none⟩)) rfl (Or.inl ⟨by rfl, ?_⟩) hHeld ?_
            · intro w hSw
              have xa := kept hSw hA
              have xb := kept hSw hB
              first
                | rfl
                | (go_simp; done)
            try go_frame
            refine wpAnyT_one (i := 14) (o := { dst := none, op := Op.store 3 (Operand.tmp 79) (Operand.tmp 78), type := 0, pos := "ref.go:58", after := #[{ on := 13, ground := Ground.data }, { on := 12, ground := Ground.data }, { on := 0, ground := Ground.phase }, { on := 1, ground := Ground.phase }, { on := 2, ground := Ground.phase }, { on := 3, ground := Ground.phase }, { on := 4, ground := Ground.phase }, { on := 5, ground := Ground.phase }, { on := 6, ground := Ground.phase }, { on := 7, ground := Ground.phase }, { on := 8, ground := Ground.phase }, { on := 9, ground := Ground.phase }, { on := 10, ground := Ground.phase }, { on := 11, ground := Ground.phase }, { on := 12, ground := Ground.phase }], guard := none }) (by kernel_rfl) rfl (fun K hK => ?_)
            go_simp
            refine hK.out _ _ (fun h => by cases h) ?_
            clear hK K
            try go_frame
            refine wpAnyT_done (by kernel_rfl) ?_ _
            obtain ⟨w5, hw5⟩ : ∃ z, (w4.setCell ⟨gR, q, none⟩ (.int .i64 (V2 : Int))).drew = z := ⟨_, rfl⟩
            have HI5 : Hid (IW wo w5 gR m1 ((R.set q V).set q V2)) := by rw [← hw5]; exact HI5
            rw [hw5]
            clear hw5 hA hB hRc hRf HI4
            go_wp2_with fail
            exact ⟨⟨j + 1, _, by omega, by simp, HL5, HI5⟩, by simp [intOf]; omega⟩
          · have h10 : (yd == z) = false := by simp [hcd]
            have HL5 : Hid (LRI x y p (m - (j + 1)) (R.set q V)) := hide (by
              have e1 := (unhide HQ).1
              rw [show m - (j + 1) = q by omega]
              refine (unhide HL).put (by rw [unhide HM]; omega) ?_
              have h9 := lcs_miss (unhide HZ).1 (unhide HY).1 (fun e => hcd (by rw [← (unhide HY).2, ← (unhide HZ).2, e]))
              rw [(unhide HQ).2.2.2.1, (unhide HQ).2.2.2.2.1, (unhide HQ).2.2.2.2.2] at h9
              exact h9)
            clear hcd
            go_wp2_with fail
            exact ⟨⟨j + 1, _, by omega, by simp, HL5, HI4⟩, by simp [intOf]; omega⟩
        · skip
          obtain rfl : j = m := by omega
          have hRd := (show LRI x y p 0 R by have := unhide HL; rw [Nat.sub_self] at this; exact this).done
          subst hRd
          have hbA : Below wr.heap.size wr (wr.alloc (.cells #[.slice (some ⟨gR, 0, none⟩) m1 m1] 59)) := (Below.refl _ _).alloc (Nat.le_refl _) _
          have hbW := (unhide HI).bel.trans (hbA.mono (unhide HI).bel.size)
          have HBA := hide ((unhide HB).trans (hbW.mono (unhide HB).size))
          have HOA := hide (own_base (own_call (unhide HI).own hbA) (unhide HB).size)
          have HRA : Hid ((wr.alloc (.cells #[.slice (some ⟨gR, 0, none⟩) m1 m1] 59)).ownsRow w.heap.size 59 1 (.slice (some ⟨wr.heap.size, 0, none⟩) 1 1) 1 [.slice (some ⟨gR, 0, none⟩) m1 m1]) := hide (own_row (RowAt.new wr 59 [.slice (some ⟨gR, 0, none⟩) m1 m1]) (Nat.le_trans (unhide HB).size (unhide HI).bel.size) (by show 1 ≤ maxLen; unfold maxLen; omega))
          have HRR := hide ((unhide HRX).2.1.call hbW)
          have HT5 : Hid (TX x y (lrow x y p :: X) (n - (k + 1))) := hide (by
            have e1 := unhide HP
            rw [show n - (k + 1) = p by omega]
            exact (unhide HRX).2.2.1.next (by rw [unhide HN]; omega))
          have HXL := hide (unhide HRX).1
          have hnX2 : nX ≤ 1025 := by have e1 := (unhide HRX).1; have e2 := (unhide HRX).2.2.1.1; rw [unhide HN] at e2; omega
          clear hbA hbW HI HL
          go_wp2_with (at_builtin; refine unhide ?_)
          obtain ⟨i9, hi9, hz9, hs9, hb9⟩ := info59
          refine hide ?_
          refine wpList_append_own_at _ rfl _ _ 57 rfl w.heap.size 59 i9 (.slice none 0 0) 1 24 Tryd.underlying57 hi9 hz9 hs9 hb9 rfl (by decide) (.slice (some ⟨wr.heap.size, 0, none⟩) 1 1) 1 [.slice (some ⟨gR, 0, none⟩) m1 m1] rfl (unhide HRA) ⟨gv, 0, none⟩ nX c vs rfl (by rw [(unhide HRR).len, unhide HXL, Nat.mul_one]) (fun j u hj => by have h8 := (unhide HRR).own; rw [unhide HXL] at h8; have h9 := World.ownsRow.cells h8 (g := gv) rfl j u hj; first | exact h9 | simpa [Addr.add_lit] using h9) (fun u hu => by
            obtain ⟨i, hi⟩ := List.mem_iff_getElem?.1 hu
            obtain ⟨r9, hr9⟩ : ∃ z, X[i]? = some z := ⟨_, List.getElem?_eq_getElem (by rw [← (unhide HRR).len]; exact (List.getElem?_eq_some_iff.1 hi).1)⟩
            obtain ⟨a9, c9, e9, _, _⟩ := own_sl ((unhide HRR).each i u r9 hi hr9)
            rw [e9]
            rfl) (by unfold maxLen; omega) (by omega) (unhide HBA).size ?_
          intro v' w5 ho hg _ _
          obtain ⟨a5, c5, rfl, _⟩ := own_sl ho
          have o5 := grown_only hg
          have HB5 := hide ((unhide HBA).trans (o5.below (unhide HBA).size (fun q hq => ((unhide HRA).lt q hq).1)))
          have HR5 : Hid (RR w5 w.heap.size (.slice a5 (1 + nX) c5) ([.slice (some ⟨gR, 0, none⟩) m1 m1] ++ vs) (lrow x y p :: X)) := hide ⟨by rw [List.length_cons, unhide HXL, Nat.add_comm nX 1]; exact ho, fun i u z h1 h2 => by
            cases i with
            | zero =>
              obtain rfl : (.slice (some ⟨gR, 0, none⟩) m1 m1 : Value) = u := by simpa using h1
              obtain rfl : lrow x y p = z := by simpa using h2
              rw [lrow_len, unhide HM, unhide HM1]
              exact own_only (unhide HOA) o5 (fun q hq hp => own_ne (unhide HOA) (unhide HRA) (by decide) q hq hp)
            | succ i =>
              have h3 := (unhide HRR).each i u z (by simpa using h1) (by simpa using h2)
              exact own_only h3 o5 (fun q hq hp => own_ne h3 (unhide HRA) (by decide) q hq hp)⟩
          clear ho hg o5 HRA HOA HRR i9 hi9 hz9 hs9 hb9 HBA
          go_wp2_with fail
          exact ⟨⟨k + 1, 1 + nX, c5, a5, by omega, by simp, rfl, hide ⟨_, _, by rw [List.length_cons, unhide HXL, Nat.add_comm], unhide HR5, unhide HT5⟩, HB5⟩, by simp [intOf]; omega⟩
    · obtain rfl : n = k := by omega
      obtain ⟨vs, X, hXl, hRR, hTX⟩ := unhide HR
      rw [Nat.sub_self] at hTX
      have HE : Hid (RwsR x y w (.returned (.slice a nX c)) wr) := hide ⟨_, vs, X, rfl, by rw [← hXl] at hRR ⊢; exact hRR, hTX, unhide HB⟩
      clear hXl hRR hTX HR
      go_wp2_with fail
      go_ret
      exact unhide HE
end Go.Proofs.YtonabfpgdgnpnaaDoor

namespace Go.Proofs.YtonabfpgdgnpnaaDoor
set_option linter.unusedVariables false
set_option linter.unusedSimpArgs false
open Go.ChangeShapes Go.WideShapes Go.ChangeAt Go.RowKit Go.Joins Go.Deep

theorem snoc_or (l : List Pt) : l = [] ∨ ∃ L q, l = L ++ [q] := by
  rcases List.eq_nil_or_concat l with h | ⟨L, q, h⟩
  · exact .inl h
  · exact .inr ⟨L, q, by rw [h, List.concat_eq_append]⟩
def join2 (q p : Pt) : Pt := ⟨q.kind, q.n + p.n, q.text ++ p.text⟩
def oneL (l : List Pt) (p : Pt) : List Pt := match l.getLast? with
  | some q => if q.kind = p.kind then l.dropLast ++ [join2 q p] else l ++ [p]
  | none => l ++ [p]
theorem oneL_nil (p : Pt) : oneL [] p = [p] := rfl
theorem oneL_snoc (l : List Pt) (q p : Pt) : oneL (l ++ [q]) p = if q.kind = p.kind then l ++ [join2 q p] else l ++ [q] ++ [p] := by
  unfold oneL
  simp
theorem lastK_snoc (l : List Pt) (q : Pt) (a : Int) : lastK a (l ++ [q]) = q.kind := by rw [lastK_append]; rfl
theorem nf_app {l m : List Pt} : ∀ {a : Int}, NfG a (l ++ m) → NfG a l ∧ NfG (lastK a l) m := by
  induction l with
  | nil => intro a h; exact ⟨trivial, h⟩
  | cons p l ih => intro a h; obtain ⟨h1, h2, h3, h4⟩ := h; obtain ⟨i1, i2⟩ := ih h4; exact ⟨⟨h1, h2, h3, i1⟩, i2⟩
theorem app_data (s t : ByteArray) : (s ++ t).data.toList = s.data.toList ++ t.data.toList := by simp
theorem good_join {q p : Pt} (hq : Good q) (hp : Good p) (hk : q.kind = p.kind) : Good (join2 q p) ∧ atoms (join2 q p) = atoms q ++ atoms p := by
  have q1 := hq.1
  have p1 := hp.1
  unfold join2
  rcases hq.cases with ⟨k1, t1, a1⟩ | ⟨k1, t1, a1⟩ | ⟨k1, cs, x1, n1, a1⟩
  · rcases hp.cases with ⟨k2, t2, a2⟩ | ⟨k2, t2, a2⟩ | ⟨k2, ds, x2, n2, a2⟩
    · have et : q.text ++ p.text = ByteArray.empty := by rw [t1, t2]; rfl
      rw [et, k1]
      refine ⟨good_keep (by omega), ?_⟩
      rw [atoms_keep, a1, a2, rep_add]
      congr 1
      omega
    · omega
    · omega
  · rcases hp.cases with ⟨k2, t2, a2⟩ | ⟨k2, t2, a2⟩ | ⟨k2, ds, x2, n2, a2⟩
    · omega
    · have et : q.text ++ p.text = ByteArray.empty := by rw [t1, t2]; rfl
      rw [et, k1]
      refine ⟨good_drop (by omega), ?_⟩
      rw [atoms_drop, a1, a2, rep_add]
      congr 1
      omega
    · omega
  · rcases hp.cases with ⟨k2, t2, a2⟩ | ⟨k2, t2, a2⟩ | ⟨k2, ds, x2, n2, a2⟩
    · omega
    · omega
    · have ht := Tx.append x1 x2 (app_data q.text p.text)
      rw [k1]
      refine ⟨⟨by show 1 ≤ q.n + p.n; omega, .inr (.inr ⟨rfl, cs ++ ds, ht, by simp; omega⟩)⟩, ?_⟩
      rw [atoms_put ht, a1, a2, List.map_append]
theorem oneL_nf {l : List Pt} {p : Pt} (h : NfG 0 l) (hp : Good p) (hk : ¬ (p.kind = 2 ∧ lastK 0 l = 3)) : NfG 0 (oneL l p) ∧ atomsL (oneL l p) = atomsL l ++ atoms p ∧ lastK 0 (oneL l p) = p.kind := by
  have kk : p.kind = 1 ∨ p.kind = 3 ∨ p.kind = 2 := by
    rcases hp.cases with h | h | h
    · exact .inl h.1
    · exact .inr (.inl h.1)
    · exact .inr (.inr h.1)
  rcases snoc_or l with rfl | ⟨l, q, rfl⟩
  · rw [oneL_nil]
    exact ⟨⟨hp, by omega, by omega, trivial⟩, by rw [atomsL_one]; rfl, rfl⟩
  · obtain ⟨h1, h2, h3, h4, _⟩ := nf_app h
    rw [lastK_snoc] at hk
    rw [oneL_snoc]
    by_cases e : q.kind = p.kind
    · rw [if_pos e]
      obtain ⟨g1, g2⟩ := good_join h2 hp e
      refine ⟨h1.append ⟨g1, h3, h4, trivial⟩, ?_, ?_⟩
      · rw [atomsL_append, atomsL_append, atomsL_one, atomsL_one, g2, List.append_assoc]
      · rw [lastK_snoc]; exact e
    · rw [if_neg e]
      refine ⟨h.append ⟨hp, ?_, ?_, trivial⟩, ?_, ?_⟩
      · rw [lastK_snoc]; exact fun h => e h.symm
      · rw [lastK_snoc]; exact hk
      · rw [atomsL_append, atomsL_one]
      · rw [lastK_snoc]
theorem oneL_len (l : List Pt) (p : Pt) : (oneL l p).length ≤ l.length + 1 := by
  rcases snoc_or l with rfl | ⟨l, q, rfl⟩
  · simp [oneL_nil]
  · rw [oneL_snoc]; split <;> simp
theorem oneL_sum (l : List Pt) (p : Pt) : sumT (oneL l p) = sumT l + p.text.size := by
  rcases snoc_or l with rfl | ⟨l, q, rfl⟩
  · simp [oneL_nil, sumT]
  · rw [oneL_snoc]
    split
    · simp only [sumT_snoc, join2, ByteArray.size_append]; omega
    · simp only [sumT_snoc]
theorem nf_num {l : List Pt} {a : Int} (h : NfG a l) : ∀ p ∈ l, p.n ≤ ((atomsL l).length : Int) := by
  intro p hp
  have hg := h.good p hp
  have h2 := hg.len.1
  have h3 : (atoms p).length ≤ (atomsL l).length := by
    clear h2 h hg
    induction l with
    | nil => cases hp
    | cons q l ih =>
      rw [atomsL, List.length_append]
      rcases List.mem_cons.1 hp with rfl | hp
      · omega
      · have := ih hp; omega
  omega
theorem canG_lenC : ∀ (x : List At) (ps : List (List UInt8)) (n : Nat), (At.canG ps n x).length = ps.length + n + x.length
  | [], ps, n => by simp [At.canG]
  | .k :: x, ps, n => by simp only [At.canG, List.length_append, List.length_map, List.length_replicate, List.length_cons]; rw [canG_lenC x [] 0]; simp
  | .d :: x, ps, n => by simp only [At.canG, List.length_cons]; rw [canG_lenC x ps (n + 1)]; omega
  | .p c :: x, ps, n => by simp only [At.canG, List.length_cons]; rw [canG_lenC x (ps ++ [c]) n]; simp; omega
theorem can_lenC (x : List At) : (At.can x).length = x.length := by unfold At.can; rw [canG_lenC]; simp
theorem At.Sw.right {x y : List At} (h : At.Sw x y) (l : List At) : At.Sw (x ++ l) (y ++ l) := by
  induction h with
  | refl x => exact .refl _
  | cons s _ ih => exact ih.cons s
  | swap c x => exact .swap c _
  | symm _ ih => exact ih.symm
  | trans _ _ i1 i2 => exact i1.trans i2
theorem At.Sw.dp (n : Nat) (y : List At) : ∀ cs : List (List UInt8), At.Sw (List.replicate n .d ++ (cs.map .p ++ y)) (cs.map .p ++ (List.replicate n .d ++ y))
  | [] => .refl _
  | c :: cs => (At.Sw.reps n c _).trans ((At.Sw.dp n y cs).cons _)
/-- the document's Norm, part by part -/
def rnStep (out : List Pt) (p : Pt) : List Pt := if fitsB p then (match out.getLast? with
  | some d => if p.kind = 2 ∧ d.kind = 3 then oneL (oneL out.dropLast p) d else oneL out p
  | none => oneL out p) else out
def rnormL (l : List Pt) : List Pt := l.foldl rnStep []
theorem rnStep_nil (p : Pt) (h : fitsB p = true) : rnStep [] p = oneL [] p := by unfold rnStep; rw [if_pos h]; rfl
theorem rnStep_no (l : List Pt) (p : Pt) (h : fitsB p = false) : rnStep l p = l := by unfold rnStep; rw [h]; rfl
theorem rnStep_snoc (l : List Pt) (q p : Pt) (h : fitsB p = true) : rnStep (l ++ [q]) p = if p.kind = 2 ∧ q.kind = 3 then oneL (oneL l p) q else oneL (l ++ [q]) p := by
  unfold rnStep
  rw [if_pos h]
  simp
theorem rnStep_len (l : List Pt) (p : Pt) : (rnStep l p).length ≤ l.length + 1 := by
  cases h : fitsB p with
  | false => rw [rnStep_no _ _ h]; omega
  | true =>
    rcases snoc_or l with rfl | ⟨l, q, rfl⟩
    · rw [rnStep_nil _ h]; exact oneL_len _ _
    · rw [rnStep_snoc _ _ _ h]
      split
      · have h1 := oneL_len l p
        have h2 := oneL_len (oneL l p) q
        simp only [List.length_append, List.length_cons, List.length_nil] at *
        omega
      · exact oneL_len _ _
theorem rnStep_sum (l : List Pt) (p : Pt) : sumT (rnStep l p) ≤ sumT l + p.text.size := by
  cases h : fitsB p with
  | false => rw [rnStep_no _ _ h]; omega
  | true =>
    rcases snoc_or l with rfl | ⟨l, q, rfl⟩
    · rw [rnStep_nil _ h, oneL_sum]; exact Nat.le_refl _
    · rw [rnStep_snoc _ _ _ h]
      split
      · rw [oneL_sum, oneL_sum, sumT_snoc]; omega
      · rw [oneL_sum]; exact Nat.le_refl _
theorem rn_step {l : List Pt} {x : List At} {p : Pt} (h1 : NfG 0 l) (h2 : atomsL l = At.can x) (hp : Good p) (hf : fitsB p = true) : NfG 0 (rnStep l p) ∧ atomsL (rnStep l p) = At.can (x ++ atoms p) := by
  have base : At.Sw (atomsL l ++ atoms p) (x ++ atoms p) := by rw [h2]; exact (At.can_sw x).symm.right _
  rcases snoc_or l with rfl | ⟨l, q, rfl⟩
  · rw [rnStep_nil _ hf]
    obtain ⟨a1, a2, _⟩ := oneL_nf h1 hp (by simp [lastK])
    refine ⟨a1, ?_⟩
    rw [← nf_can a1, a2]
    exact At.can_of_sw base
  · rw [rnStep_snoc _ _ _ hf]
    by_cases e : p.kind = 2 ∧ q.kind = 3
    · rw [if_pos e]
      obtain ⟨b1, b2, b3, b4, _⟩ := nf_app h1
      obtain ⟨a1, a2, a3⟩ := oneL_nf b1 hp (by intro h; have := h.2; omega)
      obtain ⟨c1, c2, _⟩ := oneL_nf a1 b2 (by omega)
      refine ⟨c1, ?_⟩
      rw [← nf_can c1, c2, a2]
      refine At.can_of_sw (At.Sw.trans ?_ base)
      rw [atomsL_append, atomsL_one, List.append_assoc, List.append_assoc]
      refine At.Sw.app _ ?_
      rcases b2.cases with ⟨k, _⟩ | ⟨k, _, ed⟩ | ⟨k, _⟩
      · omega
      · rcases hp.cases with ⟨k2, _⟩ | ⟨k2, _⟩ | ⟨k2, cs, _, _, ep⟩
        · omega
        · omega
        · rw [ed, ep]
          have := At.Sw.dp q.n.toNat [] cs
          simpa using this.symm
      · omega
    · rw [if_neg e]
      obtain ⟨a1, a2, _⟩ := oneL_nf h1 hp (by rw [lastK_snoc]; exact e)
      refine ⟨a1, ?_⟩
      rw [← nf_can a1, a2]
      exact At.can_of_sw base
theorem rn_fold : ∀ (l out : List Pt) (x : List At), NfG 0 out → atomsL out = At.can x → NfG 0 (l.foldl rnStep out) ∧ atomsL (l.foldl rnStep out) = At.can (x ++ atomsL (l.filter fitsB))
  | [], out, x, h1, h2 => by simpa [atomsL] using ⟨h1, h2⟩
  | p :: l, out, x, h1, h2 => by
    rw [List.foldl_cons]
    cases hf : fitsB p with
    | false =>
      rw [rnStep_no _ _ hf, List.filter_cons_of_neg (by simp [hf])]
      exact rn_fold l out x h1 h2
    | true =>
      obtain ⟨a1, a2⟩ := rn_step h1 h2 (good_of_fits hf).1 hf
      have := rn_fold l _ _ a1 a2
      rw [List.filter_cons_of_pos (by simp [hf])]
      simpa [atomsL, List.append_assoc] using this
theorem rnorm_good (l : List Pt) : NfG 0 (rnormL l) ∧ atomsL (rnormL l) = At.can (atomsL (l.filter fitsB)) := by
  have := rn_fold l [] [] trivial rfl
  unfold rnormL
  simpa using this
theorem fit_len : ∀ l : List Pt, ((atomsL (l.filter fitsB)).length : Int) ≤ 1099511627776 * (l.length : Int)
  | [] => by simp [atomsL]
  | p :: l => by
    have ih := fit_len l
    cases hf : fitsB p with
    | false => rw [List.filter_cons_of_neg (by simp [hf])]; simp only [List.length_cons]; push_cast; omega
    | true =>
      rw [List.filter_cons_of_pos (by simp [hf]), atomsL, List.length_append]
      obtain ⟨g, gn⟩ := good_of_fits hf
      have := g.len.1
      simp only [List.length_cons]
      push_cast
      omega
theorem rnormL_take {l : List Pt} {i : Nat} {p : Pt} (h : l[i]? = some p) : rnormL (l.take (i + 1)) = rnStep (rnormL (l.take i)) p := by
  unfold rnormL
  rw [List.take_add_one, h, List.foldl_append]
  rfl
theorem rnorm_len (l : List Pt) (i : Nat) : (rnormL (l.take i)).length ≤ i := by
  induction i with
  | zero => simp [rnormL]
  | succ i ih =>
    cases hp : l[i]? with
    | none =>
      have hi : l.length ≤ i := by simpa using hp
      rw [List.take_of_length_le (by omega)]
      rw [List.take_of_length_le (by omega)] at ih
      omega
    | some p => rw [rnormL_take hp]; have := rnStep_len (rnormL (l.take i)) p; omega
theorem rnorm_sum (l : List Pt) (i : Nat) : sumT (rnormL (l.take i)) ≤ sumT (l.take i) := by
  induction i with
  | zero => simp [rnormL]
  | succ i ih =>
    cases hp : l[i]? with
    | none =>
      have hi : l.length ≤ i := by simpa using hp
      rw [List.take_of_length_le (by omega)]
      rw [List.take_of_length_le (by omega)] at ih
      exact ih
    | some p => rw [rnormL_take hp, sumT_take hp]; have := rnStep_sum (rnormL (l.take i)) p; omega
/-- numbers of the parts of a form that was reached stay small -/
theorem rnorm_num (l : List Pt) (i : Nat) (hi : i ≤ 4194304) : ∀ p ∈ rnormL (l.take i), 1 ≤ p.n ∧ p.n ≤ 4611686018427387904 := by
  intro p hp
  obtain ⟨a1, a2⟩ := rnorm_good (l.take i)
  have h1 := nf_num a1 p hp
  have h2 := (a1.good p hp).1
  rw [a2, can_lenC] at h1
  have h3 := fit_len (l.take i)
  have h4 : (l.take i).length ≤ i := by rw [List.length_take]; omega
  omega
end Go.Proofs.YtonabfpgdgnpnaaDoor
