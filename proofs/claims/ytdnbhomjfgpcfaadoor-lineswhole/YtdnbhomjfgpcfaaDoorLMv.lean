/- moves: may lines move so? -/
import Derived.Test.YtdnbhomjfgpcfaaDoorLLo
namespace Go.Proofs.YtdnbhomjfgpcfaaDoor
set_option linter.unusedVariables false
set_option linter.unusedSimpArgs false
open Go.ChangeShapes Go.WideShapes Go.ChangeAt Go.RowKit Go.Joins Go.Deep

def movB (n : Nat) (f k t : Int) : Bool := decide (0 ≤ f ∧ f < (n : Int)) && decide (0 ≤ k) && decide (k ≤ (n : Int) - 1 - f) && (decide (0 ≤ t ∧ t < (n : Int)) && (decide (t ≤ f) || decide (f + k ≤ t)))
set_option maxRecDepth 100000 in
set_option maxHeartbeats 4000000 in
theorem moves_ok (g : Nat) (f k t : Int) (w : World) (a : Option Addr) (n c : Nat) (h : w.cell? ⟨g, 1, none⟩ = some (.slice a n c)) (hn : n ≤ 1099511627777) (hk1 : -9223372036854775808 ≤ k) (hk2 : k ≤ 9223372036854775807) : Calls Tryd.prog 61 #[.pointer (some ⟨g, 0, none⟩), .int .i64 f, .int .i64 k, .int .i64 t] w fun r w' => r = .returned (.bool (movB n f k t)) ∧ w = w' := by
  have K1 := hide (isLine_ok g f w a n c h)
  have K2 := hide (isLine_ok g t w a n c h)
  by_cases h1 : 0 ≤ f ∧ f < (n : Int)
  · rw [show decide (0 ≤ f ∧ f < (n : Int)) = true by simp; omega] at K1
    have hf := h1
    by_cases h2 : 0 ≤ k
    · by_cases h3 : k ≤ (n : Int) - 1 - f
      · have h2' : ¬ k < 0 := by omega
        have h3' : ¬ (n : Int) - 1 - f < k := by omega
        have hfk : 0 ≤ f + k ∧ f + k ≤ 1099511627777 := by omega
        by_cases h4 : 0 ≤ t ∧ t < (n : Int)
        · rw [show decide (0 ≤ t ∧ t < (n : Int)) = true by simp; omega] at K2
          by_cases h5 : t ≤ f
          · rw [show movB n f k t = true by unfold movB; simp; omega]
            go_enter Tryd.func61, Tryd.ntmps61
            go_wp2_with fail
            refine Calls.mono (unhide K1) ?_
            rintro r w1 ⟨rfl, rfl⟩
            go_wp2_with fail
            refine Calls.mono (unhide K2) ?_
            rintro r w1 ⟨rfl, rfl⟩
            go_wp2_with fail
            go_ret
            exact ⟨by first | rfl | (simp; done) | (simp; omega), rfl⟩
          · by_cases h6 : f + k ≤ t
            · rw [show movB n f k t = true by unfold movB; simp; omega]
              go_enter Tryd.func61, Tryd.ntmps61
              go_wp2_with fail
              refine Calls.mono (unhide K1) ?_
              rintro r w1 ⟨rfl, rfl⟩
              go_wp2_with fail
              refine Calls.mono (unhide K2) ?_
              rintro r w1 ⟨rfl, rfl⟩
              go_wp2_with fail
              go_ret
              exact ⟨by first | rfl | (simp; done) | (simp; omega), rfl⟩
            · rw [show movB n f k t = false by unfold movB; simp; omega]
              go_enter Tryd.func61, Tryd.ntmps61
              go_wp2_with fail
              refine Calls.mono (unhide K1) ?_
              rintro r w1 ⟨rfl, rfl⟩
              go_wp2_with fail
              refine Calls.mono (unhide K2) ?_
              rintro r w1 ⟨rfl, rfl⟩
              go_wp2_with fail
              go_ret
              exact ⟨by first | rfl | (simp; done) | (simp; omega), rfl⟩
        · rw [show decide (0 ≤ t ∧ t < (n : Int)) = false by simp; omega] at K2
          rw [show movB n f k t = false by unfold movB; simp; omega]
          go_enter Tryd.func61, Tryd.ntmps61
          go_wp2_with fail
          refine Calls.mono (unhide K1) ?_
          rintro r w1 ⟨rfl, rfl⟩
          go_wp2_with fail
          refine Calls.mono (unhide K2) ?_
          rintro r w1 ⟨rfl, rfl⟩
          go_wp2_with fail
          go_ret
          exact ⟨by first | rfl | (simp; done) | (simp; omega), rfl⟩
      · have h2' : ¬ k < 0 := by omega
        have h3' : (n : Int) - 1 - f < k := by omega
        rw [show movB n f k t = false by unfold movB; simp; omega]
        go_enter Tryd.func61, Tryd.ntmps61
        go_wp2_with fail
        refine Calls.mono (unhide K1) ?_
        rintro r w1 ⟨rfl, rfl⟩
        go_wp2_with fail
        go_ret
        exact ⟨by first | rfl | (simp; done) | (simp; omega), rfl⟩
    · have h2' : k < 0 := by omega
      rw [show movB n f k t = false by unfold movB; simp; omega]
      go_enter Tryd.func61, Tryd.ntmps61
      go_wp2_with fail
      refine Calls.mono (unhide K1) ?_
      rintro r w1 ⟨rfl, rfl⟩
      go_wp2_with fail
      go_ret
      exact ⟨by first | rfl | (simp; done) | (simp; omega), rfl⟩
  · rw [show decide (0 ≤ f ∧ f < (n : Int)) = false by simp; omega] at K1
    rw [show movB n f k t = false by unfold movB; simp; omega]
    go_enter Tryd.func61, Tryd.ntmps61
    go_wp2_with fail
    refine Calls.mono (unhide K1) ?_
    rintro r w1 ⟨rfl, rfl⟩
    go_wp2_with fail
    go_ret
    exact ⟨by first | rfl | (simp; done) | (simp; omega), rfl⟩
end Go.Proofs.YtdnbhomjfgpcfaaDoor
