/- The same policy. -/
import Derived.Test.YtbahnkomdndmkabClone2
namespace Go.Proofs.Ytbahnkomdndmkab
set_option linter.unusedVariables false
set_option linter.unusedSimpArgs false
open Go.ChangeShapes Go.WideShapes Go.ChangeAt Go.RowKit

/-- two policies in their blocks -/
def DB (w : World) (s0 s1 s2 t0 t1 t2 : Value) (w' : World) : Prop :=
  (w'.cell? ⟨w.heap.size, 0, none⟩ = some s0 ∧ w'.cell? ⟨w.heap.size, 1, none⟩ = some s1 ∧ w'.cell? ⟨w.heap.size, 2, none⟩ = some s2 ∧ w'.cell? ⟨w.heap.size + 1, 0, none⟩ = some t0 ∧ w'.cell? ⟨w.heap.size + 1, 1, none⟩ = some t1 ∧ w'.cell? ⟨w.heap.size + 1, 2, none⟩ = some t2) ∧ w.heap.size + 1 < w'.heap.size ∧ Below w.heap.size w w'
theorem DB.start (w : World) (s0 s1 s2 t0 t1 t2 : Value) : DB w s0 s1 s2 t0 t1 t2 ((w.alloc (.cells #[s0, s1, s2] 34)).alloc (.cells #[t0, t1, t2] 34)) := by
  refine ⟨⟨?_, ?_, ?_, ?_, ?_, ?_⟩, ?_, ?_⟩
  all_goals first | (simp [go_sem]; done) | go_grown
theorem DB.call {w W w1 : World} {s0 s1 s2 t0 t1 t2 : Value} (h : DB w s0 s1 s2 t0 t1 t2 W) (hb : Below W.heap.size W w1) : DB w s0 s1 s2 t0 t1 t2 w1 := by
  obtain ⟨⟨h0, h1, h2, h3, h4, h5⟩, hs, bl⟩ := h
  have hz := hb.size
  exact ⟨⟨cell_keep hb (show w.heap.size < _ by omega) h0, cell_keep hb (show w.heap.size < _ by omega) h1, cell_keep hb (show w.heap.size < _ by omega) h2, cell_keep hb hs h3, cell_keep hb hs h4, cell_keep hb hs h5⟩, by omega, bl.trans (hb.mono (by omega))⟩

set_option maxHeartbeats 2000000 in
theorem same_any (a0 a1 a2 b0 b1 b2 : Option Addr) (n0 n1 n2 c0 c1 c2 d0 d1 d2 : Nat) (L C Q1 Q2 Q3 E : Nat → Int) (S : Nat → ByteArray) (D : Nat → Bool) (w : World)
    (pl : PolLabs w a0 n0 L C) (pq : PolQuos w a1 n1 Q1 Q2 Q3) (pe : PolEnts w a2 n2 E S D) (ql : PolLabs w b0 n0 L C) (qq : PolQuos w b1 n1 Q1 Q2 Q3) (qe : PolEnts w b2 n2 E S D) (h0 : n0 ≤ 200) (h1 : n1 ≤ 200) (h2 : n2 ≤ 200) :
    Calls Try.prog 21 #[.agg #[.slice a0 n0 c0, .slice a1 n1 c1, .slice a2 n2 c2], .agg #[.slice b0 n0 d0, .slice b1 n1 d1, .slice b2 n2 d2]] w fun e w' => e = .returned (.bool true) ∧ Below w.heap.size w w' := by
  have hst := DB.start w (.slice a0 n0 c0) (.slice a1 n1 c1) (.slice a2 n2 c2) (.slice b0 n0 d0) (.slice b1 n1 d1) (.slice b2 n2 d2)
  have hF := hst.1
  have e0 : ((n0 : Int) != (n0 : Int)) = false := by simp
  have e1 : ((n1 : Int) != (n1 : Int)) = false := by simp
  have e2 : ((n2 : Int) != (n2 : Int)) = false := by simp
  go_enter Try.func21, Try.ntmps21
  go_wp2_with fail
  go_loopw [36] (fun i wr => ∃ k : Nat, k ≤ n0 ∧ i = .int .i64 k ∧ DB w (.slice a0 n0 c0) (.slice a1 n1 c1) (.slice a2 n2 c2) (.slice b0 n0 d0) (.slice b1 n1 d1) (.slice b2 n2 d2) wr) (fun i _ => n0 - (intOf i).toNat)
  case atStart => exact ⟨0, Nat.zero_le _, rfl, hst⟩
  case round =>
    obtain ⟨k, hkk, rfl, hRk⟩ := hrel
    have hGk := hRk.1
    by_cases hltk : k < n0
    · rcases pl.2.2 with h | ⟨b, off, rfl, hb, hrow⟩
      · omega
      rcases ql.2.2 with h | ⟨b', off', rfl, hb', hrow'⟩
      · omega
      have u1 := (hrow.below hRk.2.2 hb) k hltk
      have u2 := (hrow'.below hRk.2.2 hb') k hltk
      have g0 : (0 : Int) ≤ (k : Int) := by omega
      have g1 : (k : Int) < (n0 : Int) := by omega
      go_wp2_with fail
      go_quiet (fail)
      have hR2 := hRk.call (Joins.below_draws _ _ nq)
      go_wp2_with fail
      go_roundw
      case rel => exact ⟨k + 1, by omega, by go_num, hR2⟩
      case measure => simp [intOf]; omega
    · go_wp2_with fail
      go_loopw [54] (fun i wr => ∃ k : Nat, k ≤ n1 ∧ i = .int .i64 k ∧ DB w (.slice a0 n0 c0) (.slice a1 n1 c1) (.slice a2 n2 c2) (.slice b0 n0 d0) (.slice b1 n1 d1) (.slice b2 n2 d2) wr) (fun i _ => n1 - (intOf i).toNat)
      case atStart => exact ⟨0, Nat.zero_le _, rfl, hRk⟩
      case round =>
        obtain ⟨j, hkj, rfl, hRj⟩ := hrel
        have hGj := hRj.1
        by_cases hltj : j < n1
        · rcases pq.2.2 with h | ⟨b, off, rfl, hb, hrow⟩
          · omega
          rcases qq.2.2 with h | ⟨b', off', rfl, hb', hrow'⟩
          · omega
          have u1 := (hrow.below hRj.2.2 hb) j hltj
          have u2 := (hrow'.below hRj.2.2 hb') j hltj
          have g0 : (0 : Int) ≤ (j : Int) := by omega
          have g1 : (j : Int) < (n1 : Int) := by omega
          go_wp2_with fail
          go_quiet (fail)
          have hR2 := hRj.call (Joins.below_draws _ _ nq)
          go_wp2_with fail
          go_roundw
          case rel => exact ⟨j + 1, by omega, by go_num, hR2⟩
          case measure => simp [intOf]; omega
        · go_wp2_with fail
          go_loopw [72] (fun i wr => ∃ k : Nat, k ≤ n2 ∧ i = .int .i64 k ∧ DB w (.slice a0 n0 c0) (.slice a1 n1 c1) (.slice a2 n2 c2) (.slice b0 n0 d0) (.slice b1 n1 d1) (.slice b2 n2 d2) wr) (fun i _ => n2 - (intOf i).toNat)
          case atStart => exact ⟨0, Nat.zero_le _, rfl, hRj⟩
          case round =>
            obtain ⟨m, hkm, rfl, hRm⟩ := hrel
            have hGm := hRm.1
            by_cases hltm : m < n2
            · rcases pe.2.2 with h | ⟨b, off, rfl, hb, hrow⟩
              · omega
              rcases qe.2.2 with h | ⟨b', off', rfl, hb', hrow'⟩
              · omega
              have u1 := (hrow.below hRm.2.2 hb) m hltm
              have u2 := (hrow'.below hRm.2.2 hb') m hltm
              have g0 : (0 : Int) ≤ (m : Int) := by omega
              have g1 : (m : Int) < (n2 : Int) := by omega
              go_wp2_with fail
              go_quiet (fail)
              have hR2 := hRm.call (Joins.below_draws _ _ nq)
              go_wp2_with fail
              go_roundw
              case rel => exact ⟨m + 1, by omega, by go_num, hR2⟩
              case measure => simp [intOf]; omega
            · go_wp2_with fail
              go_ret
              exact ⟨rfl, hRm.2.2⟩
end Go.Proofs.Ytbahnkomdndmkab
