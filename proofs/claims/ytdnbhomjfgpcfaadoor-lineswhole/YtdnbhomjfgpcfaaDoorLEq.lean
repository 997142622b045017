/- slices.Equal on lists of numbers. -/
import Derived.Test.YtdnbhomjfgpcfaaDoorLFi
namespace Go.Proofs.YtdnbhomjfgpcfaaDoor
set_option linter.unusedVariables false
set_option linter.unusedSimpArgs false
open Go.ChangeShapes Go.WideShapes Go.ChangeAt Go.RowKit Go.Joins Go.Deep

set_option maxRecDepth 100000 in
set_option maxHeartbeats 4000000 in
theorem ieq_any (B1 B2 : Nat) (v1 v2 : Value) (l1 l2 : List Nat) (w : World) (h1 : w.ownsRow B1 3 1 v1 l1.length (nsv l1)) (h2 : w.ownsRow B2 3 1 v2 l2.length (nsv l2)) (hl : l1.length ≤ 1099511627776) :
    Calls Tryd.prog 31 #[v1, v2] w fun r w' => r = .returned (.bool (decide (l1 = l2))) ∧ Below w.heap.size w w' := by
  obtain ⟨a1, c1, rfl, _, _⟩ := own_sl h1
  obtain ⟨a2, c2, rfl, _, _⟩ := own_sl h2
  have H1 := hide h1
  have H2 := hide h2
  obtain ⟨n, hn⟩ : ∃ n, l1.length = n := ⟨_, rfl⟩
  obtain ⟨m, hm⟩ : ∃ n, l2.length = n := ⟨_, rfl⟩
  have HN := hide hn
  have HM := hide hm
  rw [hn] at hl H1 ⊢
  rw [hm] at H2 ⊢
  have hnI : (n : Int) ≤ 1099511627776 := by omega
  clear h1 h2 hn hm
  by_cases he : n = m
  · subst he
    obtain ⟨b, hb⟩ : ∃ b, decide (l1 = l2) = b := ⟨_, rfl⟩
    rw [hb]
    have HD := hide hb
    clear hb
    go_enter Tryd.func31, Tryd.ntmps31
    go_wp2_with fail
    go_loopw [13] (fun i wr => ∃ k : Nat, k ≤ n ∧ i = .int .i64 (k : Int) ∧ Hid (l1.take k = l2.take k) ∧ Hid (Below w.heap.size w wr)) (fun i _ => ((n : Int) - intOf i).toNat)
    case atStart => exact ⟨0, by omega, by simp, hide (by simp), hide (Below.refl _ _)⟩
    case round =>
      obtain ⟨k, hk, rfl, HT, HB⟩ := hrel
      by_cases c3 : (k : Int) < (n : Int)
      · obtain ⟨x, hx⟩ : ∃ x, l1[k]? = some x := ⟨_, List.getElem?_eq_getElem (by rw [unhide HN]; omega)⟩
        obtain ⟨y, hy⟩ : ∃ y, l2[k]? = some y := ⟨_, List.getElem?_eq_getElem (by rw [unhide HM]; omega)⟩
        obtain ⟨g1, d1, e1, q1, _, _, _⟩ := own_rd (own_call (unhide H1) (unhide HB)) (i := k) (u := .int .i64 (x : Int)) (by simp [nsv, hx])
        obtain ⟨g2, d2, e2, q2, _, _, _⟩ := own_rd (own_call (unhide H2) (unhide HB)) (i := k) (u := .int .i64 (y : Int)) (by simp [nsv, hy])
        injection e1 with e1 _ e3
        injection e2 with e2 _ e4
        subst e1 e2 e3 e4
        have k0 : (0 : Int) ≤ (k : Int) := by omega
        have HXY := hide (And.intro hx hy)
        clear hx hy
        by_cases hxy : x = y
        · have hz : ((x : Int) != (y : Int)) = false := by simp [hxy]
          have HT2 : Hid (l1.take (k + 1) = l2.take (k + 1)) := hide (by rw [List.take_add_one, List.take_add_one, unhide HT, (unhide HXY).1, (unhide HXY).2, hxy])
          clear hxy
          go_wp2_with fail
          go_quiet (fail)
          have HB2 := hide ((unhide HB).trans ((Go.Joins.below_draws _ _ nq).mono (unhide HB).size))
          clear HB
          go_wp2_with fail
          exact ⟨⟨k + 1, by omega, by simp, HT2, HB2⟩, by simp [intOf]; omega⟩
        · have hz : ((x : Int) != (y : Int)) = true := by simp; omega
          have hb : b = false := by
            rw [← unhide HD]
            simp only [decide_eq_false_iff_not]
            intro e
            have h9 := (unhide HXY).1
            rw [e, (unhide HXY).2] at h9
            injection h9 with h9
            exact hxy h9.symm
          subst hb
          clear hxy
          go_wp2_with fail
          go_quiet (fail)
          have HB2 := hide ((unhide HB).trans ((Go.Joins.below_draws _ _ nq).mono (unhide HB).size))
          clear HB
          go_wp2_with fail
          go_ret
          exact ⟨rfl, unhide HB2⟩
      · obtain rfl : n = k := by omega
        have hb : b = true := by
          rw [← unhide HD]
          simp only [decide_eq_true_eq]
          have h9 := unhide HT
          rw [List.take_of_length_le (by rw [unhide HN]; exact Nat.le_refl _), List.take_of_length_le (by rw [unhide HM]; exact Nat.le_refl _)] at h9
          exact h9
        subst hb
        go_wp2_with fail
        go_ret
        exact ⟨rfl, unhide HB⟩
  · have hb : decide (l1 = l2) = false := by
      simp only [decide_eq_false_iff_not]
      intro e
      exact he (by rw [← unhide HN, ← unhide HM, e])
    rw [hb]
    have hz : ((n : Int) != (m : Int)) = true := by simp; omega
    clear hb he
    go_enter Tryd.func31, Tryd.ntmps31
    go_wp2_with fail
    go_ret
    exact ⟨rfl, Below.refl _ _⟩
end Go.Proofs.YtdnbhomjfgpcfaaDoor
