/- The code's Word. -/
import Derived.Test.YtdnbhomjfgpcfaaDoorLWa
namespace Go.Proofs.YtdnbhomjfgpcfaaDoor
set_option linter.unusedVariables false
set_option linter.unusedSimpArgs false
open Go.ChangeShapes Go.WideShapes Go.ChangeAt Go.RowKit Go.Joins Go.Deep

/-- what likeOf hands back: its block holds the class -/
def LikR (c : Int) (w : World) (r : Ending) (w' : World) : Prop := r = .returned (.func (.func 74) #[] #[.pointer (some ⟨w.heap.size, 0, none⟩)]) ∧ w'.cell? ⟨w.heap.size, 0, none⟩ = some (.int .i64 c) ∧ Below w.heap.size w w'
set_option maxRecDepth 100000 in
set_option maxHeartbeats 4000000 in
theorem like_any (r : Int) (w : World) : Calls Tryd.prog 52 #[.int .i32 r] w fun e w' => LikR (clsV r) w e w' := by
  have K := hide (fun W => class_any r W)
  go_enter Tryd.func52, Tryd.ntmps52
  go_wp2_with fail
  refine Calls.mono (unhide K w) ?_
  rintro e w1 ⟨rfl, rfl⟩
  obtain ⟨c, hc⟩ : ∃ z, clsV r = z := ⟨_, rfl⟩
  rw [hc]
  have HC := hide hc
  clear hc K
  go_wp2_with fail
  have hB : Below w.heap.size w (w.alloc (.cells #[.int .i64 c] 3)) := (Below.refl _ _).alloc (Nat.le_refl _) _
  have hC := (RowAt.new w 3 [.int .i64 c]).cell 0
  go_ret
  rw [unhide HC]
  exact ⟨rfl, hC, hB⟩
theorem likes_any (c r : Int) (g : Nat) (w : World) (hc : w.cell? ⟨g, 0, none⟩ = some (.int .i64 c)) : Calls Tryd.prog 74 #[.int .i32 r, .pointer (some ⟨g, 0, none⟩)] w fun e w' => e = .returned (.bool (clsV r == c)) ∧ Below w.heap.size w w' := by
  have K := hide (fun q : Nat => (class_any r (w.drewN q)).mono (fun _ _ x => And.intro x.1 x.2.symm))
  go_enter Tryd.func74, Tryd.ntmps74
  go_wp2_with fail
  go_quiet ((go_at_call 73; exact Calls.quiet_of_same (unhide K _)))
  have HB := hide (Go.Joins.below_draws w.heap.size w nq)
  go_wp2_with fail
  go_ret
  exact ⟨by first | rfl | (simp; done), unhide HB⟩
theorem wordE_in {cs : List (List UInt8)} {k : Nat} (hk : k < cs.length) : wordE cs (k : Int) = .tuple #[.int .i64 (wdF (clsA cs) (clsA cs k) k : Int), .int .i64 (wdT (clsA cs) (clsA cs k) (cs.length - (k + 1)) (k + 1) : Int), .int .i64 0] := by
  unfold wordE
  rw [if_pos ⟨by omega, by omega⟩, Int.toNat_natCast]
theorem wordE_out {cs : List (List UInt8)} {i : Int} (hi : ¬ (0 ≤ i ∧ i < (cs.length : Int))) : wordE cs i = .tuple #[.int .i64 0, .int .i64 0, .int .i64 1] := if_neg hi
theorem wdT_le (C : Nat → Int) (c : Int) : ∀ f n, n ≤ wdT C c f n ∧ wdT C c f n ≤ n + f
  | 0, n => ⟨Nat.le_refl _, Nat.le_refl _⟩
  | f + 1, n => by
    rw [wdT]
    have := wdT_le C c f (n + 1)
    split <;> omega
set_option maxRecDepth 100000 in
set_option maxHeartbeats 4000000 in
theorem word_ok {w : World} {B g : Nat} {vr vs : Value} {cs : List (List UInt8)} (h : Ix w B g vr vs cs) (i : Int) (hl : cs.length ≤ 1099511627776) : Calls Tryd.prog 27 #[.pointer (some ⟨g, 0, none⟩), .int .i64 i] w fun r w' => r = .returned (wordE cs i) ∧ Below w.heap.size w w' := by
  obtain ⟨ar, cr, as_, c_, e1, e2, q0, q1⟩ := h.two
  have KM := hide (made_ok g w as_ _ c_ q1 (sts_pos cs))
  have HI := hide h
  have HE1 := hide e1
  clear h e1 e2 q1
  by_cases hi : 0 ≤ i ∧ i < (cs.length : Int)
  · obtain ⟨k, rfl⟩ : ∃ k : Nat, i = (k : Int) := ⟨i.toNat, by omega⟩
    have hk : k < cs.length := by omega
    rw [wordE_in hk]
    obtain ⟨x, hx⟩ : ∃ x, cs[k]? = some x := ⟨_, List.getElem?_eq_getElem hk⟩
    have hc := clsA_at hx
    obtain ⟨gr, cg, e, hcell, _, hcc, _⟩ := own_rd (unhide HI).r (rnv_at hx)
    rw [unhide HE1] at e
    injection e with e1 e2 e3
    clear e2
    subst e1 e3
    obtain ⟨y, hy⟩ : ∃ y : Int, (rn x : Int) = y := ⟨_, rfl⟩
    rw [hy] at hcell hc
    have KL := hide (like_any y w)
    obtain ⟨c, hcc2⟩ : ∃ z, clsV y = z := ⟨_, rfl⟩
    rw [hcc2] at hc KL
    have HC := hide hc
    rw [hc]
    obtain ⟨F, hF⟩ : ∃ z, wdF (clsA cs) c k = z := ⟨_, rfl⟩
    obtain ⟨E, hE⟩ : ∃ z, wdT (clsA cs) c (cs.length - (k + 1)) (k + 1) = z := ⟨_, rfl⟩
    have HF := hide hF
    have HE := hide hE
    rw [hF, hE]
    obtain ⟨n, hn⟩ : ∃ z, cs.length = z := ⟨_, rfl⟩
    have HN := hide hn
    rw [hn] at q0 hl hk hi HE HE1
    have k0 : (0 : Int) ≤ (k : Int) := by omega
    have k1 : ¬ (k : Int) < 0 := by omega
    have k2 : (k : Int) < (n : Int) := by omega
    have k3 : ¬ (n : Int) ≤ (k : Int) := by omega

    clear hx hc hy hcc2 hF hE hn hi
    go_enter Tryd.func27, Tryd.ntmps27
    go_wp2_with fail
    refine Calls.mono (unhide KM) ?_
    rintro r w1 ⟨rfl, rfl⟩
    go_wp2_with fail
    refine Calls.mono (unhide KL) ?_
    rintro r w2 h2
    obtain ⟨rfl, hcl, b2⟩ := h2
    have hgl := hcl
    have B2 := hide b2
    have HI2 := hide ((unhide HI).call b2)
    have HCL : Hid (w2.cell? ⟨w.heap.size, 0, none⟩ = some (.int .i64 c)) := hide hcl
    clear hcell hcl hgl b2 HI KL q0 KM
    obtain ⟨gc, hgc⟩ : ∃ z, w.heap.size = z := ⟨_, rfl⟩
    rw [hgc] at HCL ⊢
    have HGC := hide hgc
    clear hgc
    go_wp2_with fail
    go_loopw [4] (fun v wr => ∃ j : Nat, j ≤ k ∧ v = .int .i64 (j : Int) ∧ Hid (wdF (clsA cs) c j = F) ∧ Hid (Below w2.heap.size w2 wr)) (fun v _ => (intOf v).toNat)
    case atStart => exact ⟨k, by omega, rfl, HF, hide (Below.refl _ _)⟩
    case round =>
      obtain ⟨j, hj, rfl, HJ, HB⟩ := hrel
      have HI3 := hide ((unhide HI2).call (unhide HB))
      have hcl : wr.cell? ⟨gc, 0, none⟩ = some (.int .i64 c) := kept (unhide HB) (unhide HCL)
      have q0 := (unhide HI3).row.cell 0
      simp only [List.getElem?_cons_zero] at q0
      rw [unhide HE1] at q0
      by_cases hj0 : j = 0
      · have hFJ : j = F := by rw [← unhide HJ, hj0]; rfl
        have hjI : ¬ (0 : Int) < (j : Int) := by omega
        have HB3 := HB
        clear hcl HJ HB hj0
        have HFJ : Hid ((j : Nat) = F) := hide hFJ
        clear hFJ
        go_wp2_with fail
        go_loopw [5] (fun v wx => ∃ q : Nat, q ≤ n ∧ v = .int .i64 (q : Int) ∧ Hid (wdT (clsA cs) c (n - q) q = E) ∧ Hid (Below w2.heap.size w2 wx)) (fun v _ => ((n : Int) - intOf v).toNat)
        case atStart => exact ⟨k + 1, by omega, by simp, HE, HB3⟩
        case round =>
          clear HB3
          obtain ⟨q, hq, rfl, HQ, HB4⟩ := hrel
          have HI4 := hide ((unhide HI2).call (unhide HB4))
          have hcl : wr.cell? ⟨gc, 0, none⟩ = some (.int .i64 c) := kept (unhide HB4) (unhide HCL)
          have q0 := (unhide HI4).row.cell 0
          simp only [List.getElem?_cons_zero] at q0
          rw [unhide HE1] at q0
          by_cases hqn : (q : Int) < (n : Int)
          · obtain ⟨x2, hx2⟩ : ∃ x, cs[q]? = some x := ⟨_, List.getElem?_eq_getElem (by rw [unhide HN]; omega)⟩
            obtain ⟨gr2, cg2, e, hce2, _, _, _⟩ := own_rd (unhide HI4).r (rnv_at hx2)
            have hvr := unhide HE1
            rw [hvr] at e
            injection e with e1 e2 e3
            clear e2
            injection e1 with e1
            injection e1 with e1 z1 z2
            clear z1 z2
            subst e1 e3
            have hc2 := clsA_at hx2
            obtain ⟨y2, hy2⟩ : ∃ y : Int, (rn x2 : Int) = y := ⟨_, rfl⟩
            rw [hy2] at hce2 hc2
            have KL2 := hide (likes_any c y2 gc wr hcl)
            have k5 : (0 : Int) ≤ (q : Int) := by omega
            have hstep : wdT (clsA cs) c (n - q) q = if clsA cs q = c then wdT (clsA cs) c (n - (q + 1)) (q + 1) else q := by
              rw [show n - q = n - (q + 1) + 1 by omega, wdT]
            rw [hc2] at hstep
            have HST := hide hstep
            clear hx2 hc2 hy2 hvr hstep hcl
            by_cases hz : clsV y2 = c
            · rw [show (clsV y2 == c) = true by simp [hz]] at KL2
              rw [if_pos hz] at HST
              clear hz
              go_wp2_with fail
              refine Calls.mono (unhide KL2) ?_
              rintro r w5 ⟨rfl, b5⟩
              have HB5 := hide ((unhide HB4).trans (b5.mono (unhide HB4).size))
              clear b5 KL2 q0 hce2
              go_wp2_with fail
              exact ⟨⟨q + 1, by omega, by simp, hide (by rw [← unhide HQ, unhide HST]), HB5⟩, by simp [intOf]; omega⟩
            · rw [show (clsV y2 == c) = false by simp [hz]] at KL2
              rw [if_neg hz] at HST
              have HQE : Hid (q = E) := hide (by rw [← unhide HQ, unhide HST])
              clear hz
              go_wp2_with fail
              refine Calls.mono (unhide KL2) ?_
              rintro r w5 ⟨rfl, b5⟩
              have HB5 := hide ((unhide HB4).trans (b5.mono (unhide HB4).size))
              clear b5 KL2 q0 hce2
              go_wp2_with fail
              go_returns
              exact ⟨by rw [← unhide HFJ, ← unhide HQE]; first | rfl | simp, (unhide B2).trans ((unhide HB5).mono (unhide B2).size)⟩
          · obtain rfl : n = q := by omega
            have HQE : Hid (n = E) := hide (by rw [← unhide HQ, Nat.sub_self, wdT])
            clear hcl
            go_wp2_with fail
            go_returns
            exact ⟨by rw [← unhide HFJ, ← unhide HQE]; first | rfl | simp, (unhide B2).trans ((unhide HB4).mono (unhide B2).size)⟩
      · obtain ⟨m, rfl⟩ : ∃ m, j = m + 1 := ⟨j - 1, by omega⟩
        obtain ⟨x1, hx1⟩ : ∃ x, cs[m]? = some x := ⟨_, List.getElem?_eq_getElem (by rw [unhide HN]; omega)⟩
        obtain ⟨gr1, cg1, e, hce1, _, _, _⟩ := own_rd (unhide HI3).r (rnv_at hx1)
        have hvr := unhide HE1
        rw [hvr] at e
        injection e with e1 e2 e3
        clear e2
        injection e1 with e1
        injection e1 with e1 z1 z2
        clear z1 z2
        subst e1 e3
        have hc1 := clsA_at hx1
        obtain ⟨y1, hy1⟩ : ∃ y : Int, (rn x1 : Int) = y := ⟨_, rfl⟩
        rw [hy1] at hce1 hc1
        have KL1 := hide (likes_any c y1 gc wr hcl)
        have hstep : wdF (clsA cs) c (m + 1) = if clsA cs m = c then wdF (clsA cs) c m else m + 1 := rfl
        rw [hc1] at hstep
        have HST := hide hstep
        have m0 : (0 : Int) ≤ (m : Int) := by omega
        have m1 : (m : Int) < (n : Int) := by omega
        clear hx1 hc1 hy1 hvr hstep hcl hj0
        by_cases hz : clsV y1 = c
        · rw [show (clsV y1 == c) = true by simp [hz]] at KL1
          rw [if_pos hz] at HST
          clear hz
          go_wp2_with fail
          refine Calls.mono (unhide KL1) ?_
          rintro r w5 ⟨rfl, b5⟩
          have HB5 := hide ((unhide HB).trans (b5.mono (unhide HB).size))
          clear b5 KL1 q0 hce1
          go_wp2_with fail
          exact ⟨⟨m, by omega, by simp, hide (by rw [← unhide HJ, unhide HST]), HB5⟩, by simp [intOf]⟩
        · rw [show (clsV y1 == c) = false by simp [hz]] at KL1
          rw [if_neg hz] at HST
          have HFJ0 : Hid (m + 1 = F) := hide (by rw [← unhide HJ, unhide HST])
          clear hz
          go_wp2_with fail
          refine Calls.mono (unhide KL1) ?_
          rintro r w5 ⟨rfl, b5⟩
          have HB3 := hide ((unhide HB).trans (b5.mono (unhide HB).size))
          clear b5 KL1 q0 hce1 HB HJ HST
          have hFJ := unhide HFJ0
          have HFJ : Hid ((m + 1 : Nat) = F) := hide hFJ
          clear hFJ
          go_wp2_with fail
          go_loopw [5] (fun v wx => ∃ q : Nat, q ≤ n ∧ v = .int .i64 (q : Int) ∧ Hid (wdT (clsA cs) c (n - q) q = E) ∧ Hid (Below w2.heap.size w2 wx)) (fun v _ => ((n : Int) - intOf v).toNat)
          case atStart => exact ⟨k + 1, by omega, by simp, HE, HB3⟩
          case round =>
            clear HB3
            obtain ⟨q, hq, rfl, HQ, HB4⟩ := hrel
            have HI4 := hide ((unhide HI2).call (unhide HB4))
            have hcl : wr.cell? ⟨gc, 0, none⟩ = some (.int .i64 c) := kept (unhide HB4) (unhide HCL)
            have q0 := (unhide HI4).row.cell 0
            simp only [List.getElem?_cons_zero] at q0
            rw [unhide HE1] at q0
            by_cases hqn : (q : Int) < (n : Int)
            · obtain ⟨x2, hx2⟩ : ∃ x, cs[q]? = some x := ⟨_, List.getElem?_eq_getElem (by rw [unhide HN]; omega)⟩
              obtain ⟨gr2, cg2, e, hce2, _, _, _⟩ := own_rd (unhide HI4).r (rnv_at hx2)
              have hvr := unhide HE1
              rw [hvr] at e
              injection e with e1 e2 e3
              clear e2
              injection e1 with e1
              injection e1 with e1 z1 z2
              clear z1 z2
              subst e1 e3
              have hc2 := clsA_at hx2
              obtain ⟨y2, hy2⟩ : ∃ y : Int, (rn x2 : Int) = y := ⟨_, rfl⟩
              rw [hy2] at hce2 hc2
              have KL2 := hide (likes_any c y2 gc wr hcl)
              have k5 : (0 : Int) ≤ (q : Int) := by omega
              have hstep : wdT (clsA cs) c (n - q) q = if clsA cs q = c then wdT (clsA cs) c (n - (q + 1)) (q + 1) else q := by
                rw [show n - q = n - (q + 1) + 1 by omega, wdT]
              rw [hc2] at hstep
              have HST := hide hstep
              clear hx2 hc2 hy2 hvr hstep hcl
              by_cases hz : clsV y2 = c
              · rw [show (clsV y2 == c) = true by simp [hz]] at KL2
                rw [if_pos hz] at HST
                clear hz
                go_wp2_with fail
                refine Calls.mono (unhide KL2) ?_
                rintro r w5 ⟨rfl, b5⟩
                have HB5 := hide ((unhide HB4).trans (b5.mono (unhide HB4).size))
                clear b5 KL2 q0 hce2
                go_wp2_with fail
                exact ⟨⟨q + 1, by omega, by simp, hide (by rw [← unhide HQ, unhide HST]), HB5⟩, by simp [intOf]; omega⟩
              · rw [show (clsV y2 == c) = false by simp [hz]] at KL2
                rw [if_neg hz] at HST
                have HQE : Hid (q = E) := hide (by rw [← unhide HQ, unhide HST])
                clear hz
                go_wp2_with fail
                refine Calls.mono (unhide KL2) ?_
                rintro r w5 ⟨rfl, b5⟩
                have HB5 := hide ((unhide HB4).trans (b5.mono (unhide HB4).size))
                clear b5 KL2 q0 hce2
                go_wp2_with fail
                go_returns
                exact ⟨by rw [← unhide HFJ, ← unhide HQE]; first | rfl | simp, (unhide B2).trans ((unhide HB5).mono (unhide B2).size)⟩
            · obtain rfl : n = q := by omega
              have HQE : Hid (n = E) := hide (by rw [← unhide HQ, Nat.sub_self, wdT])
              clear hcl
              go_wp2_with fail
              go_returns
              exact ⟨by rw [← unhide HFJ, ← unhide HQE]; first | rfl | simp, (unhide B2).trans ((unhide HB4).mono (unhide B2).size)⟩
  · rw [wordE_out hi]
    obtain ⟨n, hn⟩ : ∃ z, cs.length = z := ⟨_, rfl⟩
    rw [hn] at q0 hl hi
    clear HI HE1 hn
    by_cases h0 : i < 0
    · 
      go_enter Tryd.func27, Tryd.ntmps27
      go_wp2_with fail
      refine Calls.mono (unhide KM) ?_
      rintro r w1 ⟨rfl, rfl⟩
      go_wp2_with fail
      go_returns
      exact ⟨rfl, Below.refl _ _⟩
    · have h1 : (n : Int) ≤ i := by omega
      go_enter Tryd.func27, Tryd.ntmps27
      go_wp2_with fail
      refine Calls.mono (unhide KM) ?_
      rintro r w1 ⟨rfl, rfl⟩
      go_wp2_with fail
      go_returns
      exact ⟨rfl, Below.refl _ _⟩
end Go.Proofs.YtdnbhomjfgpcfaaDoor
