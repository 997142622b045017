/- Cursors keep their order: the walk. -/
import Derived.Test.YtidblnjohkadhaaDoorCur
import Derived.Test.YtidblnjohkadhaaDoorDia0
namespace Go.Proofs.YtidblnjohkadhaaDoor
set_option linter.unusedVariables false
set_option linter.unusedSimpArgs false
open Go.ChangeShapes Go.WideShapes Go.ChangeAt Go.RowKit Go.Joins Go.Deep

theorem ed_szVal2 {l : List Pt} {f t : Nat} (h : IsEd l f t) : szVal l = .tuple #[.int .i64 (f : Int), .int .i64 (t : Int), .int .i64 0] := by unfold szVal; rw [ed_size h]
theorem mod_le (k : Int) (F : Nat) (h : F ≤ 1099511627776) : ∃ j : Nat, wrap64 ((IntKind.u64.wrap k).tmod ((F : Int) + 1)) = (j : Int) ∧ j ≤ F := by
  have h0 : 0 ≤ IntKind.u64.wrap k := wrap_u64_nonneg k
  rw [Int.tmod_eq_emod_of_nonneg h0]
  have g1 := Int.emod_nonneg (IntKind.u64.wrap k) (show (F : Int) + 1 ≠ 0 by omega)
  have g2 := Int.emod_lt_of_pos (IntKind.u64.wrap k) (show (0 : Int) < (F : Int) + 1 by omega)
  generalize IntKind.u64.wrap k % ((F : Int) + 1) = x at *
  refine ⟨x.toNat, ?_, by omega⟩
  unfold wrap64
  omega
set_option maxRecDepth 100000 in
set_option maxHeartbeats 4000000 in
theorem order_law (e : Option Addr) (le : List Pt) (ce : Nat) (i : Int) (k : Int) (w : World) (hT : UT w) (ee : Edit w e le ce) (i0 : -9223372036854775808 ≤ i) (i1 : i ≤ 9223372036854775807) (k0 : -9223372036854775808 ≤ k) (k1 : k ≤ 9223372036854775807) : Calls Tryd.prog 19 #[.slice e le.length ce, .int .i64 i, .int .i64 k] w fun r w' => r = .returned (.bool true) ∧ Below w.heap.size w w' := by
  have HU : Hid (∀ W, Below w.heap.size w W → UT W) := hide (fun W h => hT.call h)
  have HB0 := hide (Below.refl w.heap.size w)
  have Ee : Hid (∀ W, Below w.heap.size w W → Edit W e le ce) := hide (fun W h => ee.call h)
  have Te := hide (⟨ee.txt, ee.cap, ee.max, ee.num⟩ : _ ∧ _ ∧ _ ∧ _)
  have hbL : Below w.heap.size w (w.alloc (.cells #[.slice e le.length ce] 22)) := (Below.refl _ _).alloc (Nat.le_refl _) _
  have HLT := hide (light_any w.heap.size [⟨e, le, ce⟩] (w.alloc (.cells #[.slice e le.length ce] 22)) (RowAt.new w 22 _) (by
    intro e he
    simp only [List.mem_cons, List.not_mem_nil, or_false] at he
    rcases he with rfl
    · exact (ee.call hbL).pts
    ) (by
    intro e he
    simp only [List.mem_cons, List.not_mem_nil, or_false] at he
    rcases he with rfl
    · exact Nat.le_trans ee.cap ee.max
    ) (by simp))
  have HBL := hide hbL
  obtain ⟨ne, hne⟩ : ∃ z, le.length = z := ⟨_, rfl⟩
  simp only [hne] at HLT HBL ⊢
  have Ne := hide hne
  clear hT hbL ee hne
  go_enter Tryd.func19, Tryd.ntmps19
  go_wp2_with fail
  refine Calls.mono (unhide HLT) ?_
  rintro r w1 ⟨⟨lb_, rfl, hlb⟩, hb1⟩
  have HB1 := hide ((unhide HBL).trans (hb1.mono (unhide HBL).size))
  have HLB := hide hlb
  clear hb1 HLT hlb HBL
  cases lb_ with
  | false =>
    go_wp2_with fail
    refine Calls.mono (awake_any _ (unhide HU _ (unhide HB1))) ?_
    rintro r wa ⟨rfl, hba⟩
    have HBa := hide ((unhide HB1).trans (hba.mono (unhide HB1).size))
    clear hba
    go_wp2_with fail
    go_ret
    exact ⟨rfl, unhide HBa⟩
  | true =>
    have qe : Hid (ne ≤ 200) := hide (by have h := (unhide HLB rfl).1 ⟨e, le, ce⟩ (by simp); rw [← unhide Ne]; exact h)
    have HWS := hide (unhide HLB rfl).2
    clear HLB
    go_wp2_with fail
    refine Calls.mono (size_at (w := w1) (unhide HU _ (unhide HB1)) (unhide Ee _ (unhide HB1)) (unhide Ne) (Below.refl w1.heap.size w1)) ?_
    rintro r w2 ⟨rfl, hb_⟩
    have HB2 := hide ((unhide HB1).trans (hb_.mono (unhide HB1).size))
    clear hb_
    cases hsz : sizeL le with
    | none =>
      have e_ : szVal le = .tuple #[.int .i64 0, .int .i64 0, .int .i64 30] := by unfold szVal; rw [hsz]
      rw [e_]
      clear e_ hsz
      go_wp2_with fail
      refine Calls.mono (awake_any _ (unhide HU _ (unhide HB2))) ?_
      rintro r wa ⟨rfl, hba⟩
      have HBa := hide ((unhide HB2).trans (hba.mono (unhide HB2).size))
      clear hba
      go_wp2_with fail
      go_ret
      exact ⟨rfl, unhide HBa⟩
    | some x =>
      obtain ⟨ff, tt, kk⟩ := x
      obtain ⟨hEe, hx1, hx2⟩ := size_ed hsz
      clear hx1 hx2
      obtain ⟨F, hF⟩ : ∃ z, ff.toNat = z := ⟨_, rfl⟩
      obtain ⟨T, hT'⟩ : ∃ z, tt.toNat = z := ⟨_, rfl⟩
      rw [hF, hT'] at hEe
      rw [ed_szVal2 hEe]
      have D := hide hEe
      have hFl := hEe.2.2.2.1
      have hTl := hEe.2.2.2.2
      clear hEe hF hT' hsz ff tt kk
      have fI : (F : Int) ≤ 1099511627776 := by omega
      have hF1 : (F : Int) + 1 ≠ 0 := by omega
      have w1' : wrap64 ((F : Int) + 1) = (F : Int) + 1 := by unfold wrap64; omega
      have hne : ¬ ((F : Int) + 1 = 0) := by omega
      go_wp2_with fail
      go_quiet (fail)
      obtain ⟨I, hI, hI2⟩ := mod_le i F hFl
      obtain ⟨K, hK, hK2⟩ := mod_le k F hFl
      rw [hI, hK]
      have HBq := hide ((unhide HB2).trans ((Joins.below_draws _ _ nq).mono (unhide HB2).size))
      obtain ⟨wq, hwq⟩ : ∃ z, w2.drewN nq = z := ⟨_, rfl⟩
      rw [hwq] at HBq ⊢
      clear hwq hI hK HB2 hF1 w1' hne
      obtain ⟨m, hm⟩ : ∃ z, min I K = z := ⟨_, rfl⟩
      obtain ⟨x, hx⟩ : ∃ z, max I K = z := ⟨_, rfl⟩
      have hmI : min (I : Int) (K : Int) = (m : Int) := by omega
      have hxI : max (I : Int) (K : Int) = (x : Int) := by omega
      have hm2 : Hid (m ≤ F) := hide (by omega)
      have hx2 : Hid (x ≤ F) := hide (by omega)
      have hmx : Hid (m ≤ x) := hide (by omega)
      clear hm hx
      obtain ⟨CA, hCA⟩ : ∃ z, At.cur (atomsL le) m false = z := ⟨_, rfl⟩
      obtain ⟨CB, hCB⟩ : ∃ z, At.cur (atomsL le) m true = z := ⟨_, rfl⟩
      obtain ⟨CC, hCC⟩ : ∃ z, At.cur (atomsL le) x false = z := ⟨_, rfl⟩
      have hab : (CA : Int) ≤ (CB : Int) := by have := At.cur_flag (atomsL le) m; omega
      have hbt : (CB : Int) ≤ (T : Int) := by have h1 := At.cur_le (atomsL le) m true; rw [(unhide D).2.2.1] at h1; omega
      have hac : (CA : Int) ≤ (CC : Int) := by have := At.cur_mono (atomsL le) m x (unhide hmx); omega
      have ha0 : (0 : Int) ≤ (CA : Int) := by omega
      have HCA := hide hCA
      have HCB := hide hCB
      have HCC := hide hCC
      clear hCA hCB hCC
      go_wp2_with fail
      refine Calls.mono (cursor_at (w := wq) (unhide HU _ (unhide HBq)) (unhide Ee _ (unhide HBq)) (unhide Ne) (unhide D) (at_ := m) (unhide hm2) false (Below.refl wq.heap.size wq)) ?_
      rintro r w3 ⟨rfl, hb_⟩
      have HB3 := hide ((unhide HBq).trans (hb_.mono (unhide HBq).size))
      clear hb_
      rw [unhide HCA]
      go_wp2_with fail
      refine Calls.mono (cursor_at (w := w3) (unhide HU _ (unhide HB3)) (unhide Ee _ (unhide HB3)) (unhide Ne) (unhide D) (at_ := m) (unhide hm2) true (Below.refl w3.heap.size w3)) ?_
      rintro r w4 ⟨rfl, hb_⟩
      have HB4 := hide ((unhide HB3).trans (hb_.mono (unhide HB3).size))
      clear hb_
      rw [unhide HCB]
      go_wp2_with fail
      refine Calls.mono (cursor_at (w := w4) (unhide HU _ (unhide HB4)) (unhide Ee _ (unhide HB4)) (unhide Ne) (unhide D) (at_ := x) (unhide hx2) false (Below.refl w4.heap.size w4)) ?_
      rintro r w5 ⟨rfl, hb_⟩
      have HB5 := hide ((unhide HB4).trans (hb_.mono (unhide HB4).size))
      clear hb_
      rw [unhide HCC]
      go_wp2_with fail
      refine Calls.mono (awake_any _ (unhide HU _ (unhide HB5))) ?_
      rintro r wa ⟨rfl, hba⟩
      have HBa := hide ((unhide HB5).trans (hba.mono (unhide HB5).size))
      clear hba
      go_wp2_with fail
      go_ret
      exact ⟨rfl, unhide HBa⟩
end Go.Proofs.YtidblnjohkadhaaDoor
