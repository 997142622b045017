/- For every policy and all places v, x the Go function sealskinlaw01.LatticePairs returns true, and its arguments read as they did. No condition. -/
import Derived.Test.YtbahnkomdndmkabPlaces
namespace Go.Proofs.Ytbahnkomdndmkab.pairs
set_option linter.unusedVariables false
set_option linter.unusedSimpArgs false
open Go.ChangeShapes Go.WideShapes Go.ChangeAt Go.RowKit

theorem sees_v (n : Nat) (L C : Nat → Int) (v x : Int) : memB (vis (fun i => seesB n L C (Int.ofNat i) x) n) v = seesB n L C v x := by
  rw [mem_vis]
  by_cases h : 0 ≤ v ∧ v < n
  · have e : Int.ofNat v.toNat = v := by simp; omega
    rw [e]
    simp [h]
  · simp [seesB, placeB, h]
theorem sees_s (n : Nat) (L C : Nat → Int) (v x : Int) : memB (vis (fun i => seesB n L C v (Int.ofNat i)) n) x = seesB n L C v x := by
  rw [mem_vis]
  by_cases h : 0 ≤ x ∧ x < n
  · have e : Int.ofNat x.toNat = x := by simp; omega
    rw [e]
    simp [h]
  · simp [seesB, placeB, h]

set_option maxHeartbeats 1000000 in
theorem walk (a0 a1 a2 : Option Addr) (n0 n1 n2 c0 c1 c2 : Nat) (L C : Nat → Int) (v x : Int) (w : World) (hp : PolLabs w a0 n0 L C) :
    Calls Try.prog 5 #[.agg #[.slice a0 n0 c0, .slice a1 n1 c1, .slice a2 n2 c2], .int .i64 v, .int .i64 x] w fun e w' => e = .returned (.bool true) ∧ Below w.heap.size w w' := by
  cases hl : longB n0 n1 n2
  · have hn : n0 ≤ 200 := by
      simp [longB] at hl
      omega
    have E1 := sees_v n0 L C v x
    have E2 := sees_s n0 L C v x
    have l1 : (vis (fun i => seesB n0 L C (Int.ofNat i) x) n0).length ≤ 200 := Nat.le_trans (vis_le _ _) hn
    have l2 : (vis (fun i => seesB n0 L C v (Int.ofNat i)) n0).length ≤ 200 := Nat.le_trans (vis_le _ _) hn
    have hst := PB.start w (.slice a0 n0 c0) (.slice a1 n1 c1) (.slice a2 n2 c2)
    go_enter Try.func5, Try.ntmps5
    go_wp2_with fail
    refine (long_any _ _ _ _ _ _ _ _ _ _).mono ?_
    rintro e W0 ⟨rfl, hb0⟩
    rw [hl]
    have hst := PB.call hst hb0
    clear hb0
    have hF := hst.1
    go_wp2_with fail
    have hst' := hst
    unfold PB at hst'
    go_region_held3 (fun w' => (w'.cell? ⟨w.heap.size, 0, none⟩ = some (.slice a0 n0 c0) ∧ w'.cell? ⟨w.heap.size, 1, none⟩ = some (.slice a1 n1 c1) ∧ w'.cell? ⟨w.heap.size, 2, none⟩ = some (.slice a2 n2 c2)) ∧ w.heap.size < w'.heap.size ∧ Below w.heap.size w w')
      (first | exact PB.drew (by assumption) | exact PB.call (by assumption) (by assumption) | assumption)
      (first
        | (go_at_call 15; refine (list_v _ _ _ _ _ _ _ _ _ L C _ _ ?_ hn).mono ?_; (exact hp.call (PB.bel (s0 := .slice a0 n0 c0) (s1 := .slice a1 n1 c1) (s2 := .slice a2 n2 c2) (by assumption))); rintro e w' ⟨vv, rfl, ho, hb⟩)
        | (go_at_call 16; refine (list_s _ _ _ _ _ _ _ _ _ L C _ _ ?_ hn).mono ?_; (exact hp.call (PB.bel (s0 := .slice a0 n0 c0) (s1 := .slice a1 n1 c1) (s2 := .slice a2 n2 c2) (by assumption))); rintro e w' ⟨vv, rfl, ho, hb⟩)
        | (go_at_call 14; refine (contains_any _ _ _ _ _ ?_ (by assumption)).mono ?_; (first | exact l1 | exact l2); rintro e w' ⟨rfl, rfl⟩; first | rw [E1] | rw [E2])
        | (go_at_call 13; refine (sees_any _ _ _ _ _ _ _ _ _ L C _ _ _ ?_).mono ?_; (exact hp.call (PB.bel (s0 := .slice a0 n0 c0) (s1 := .slice a1 n1 c1) (s2 := .slice a2 n2 c2) (by assumption))); rintro e w' ⟨rfl, hb⟩)
        | (go_at_call 11; refine (awake_any _).mono ?_; rintro e w' ⟨rfl, hb⟩))
    all_goals go_wp2
    all_goals go_ret
    all_goals
      have hS : PB w (.slice a0 n0 c0) (.slice a1 n1 c1) (.slice a2 n2 c2) w' := by assumption
      exact ⟨rfl, hS.2.2⟩
  · have hst := PB.start w (.slice a0 n0 c0) (.slice a1 n1 c1) (.slice a2 n2 c2)
    go_enter Try.func5, Try.ntmps5
    go_wp2_with (first
      | (go_at_call 12; refine (long_any _ _ _ _ _ _ _ _ _ _).mono ?_; rintro e w' ⟨rfl, hb⟩; have hS := PB.call (by assumption) hb; have hF := hS.1; clear hb)
      | (go_at_call 11; refine (awake_any _).mono ?_; rintro e w' ⟨rfl, hb⟩; have hS := PB.call (by assumption) hb; clear hb))
    go_ret
    exact ⟨rfl, hS.2.2⟩

theorem open_i64 {H : Type} {enc : TypeId × Value → H} {W : World} {b0 base : Nat} {spare : Nat → Bool} {held : Bool} {v : Value} {d : DataW H} {p : List MemPlace}
    (hv : Value.okWide Try.prog W .any b0 3 v) (h : DataW.Trod enc Try.prog W base spare held 3 v d p) : ∃ n : Int, v = .int .i64 n ∧ I64 n := by
  obtain ⟨n, rfl, _, _, wn⟩ := open_int Try.underlying3 hv h
  exact ⟨n, rfl, bounds_i64 wn⟩

set_option maxRecDepth 100000 in
theorem lifted (os : Os) (started : os.Started) (H : Type) (enc : TypeId × Value → H) :
    ReturnsInHanded {} Try.checked os 5 .any (Rows.latticePairsSpec.pre6 enc Try.prog Try.f5 Rows.latticePairsRow.domain false) (Rows.latticePairsSpec.post enc Try.prog Try.f5 false true false false) := by
  refine returnsInHanded_of_change (C := Try.checked) own started (by kernel_rfl) Try.func5
    (ChangeSpec.witness6 (enc := enc) (C := Try.checked) false ⟨#[], #[.agg #[.slice none 0 0, .slice none 0 0, .slice none 0 0], .int .i64 0, .int .i64 0], []⟩ 8 (by kernel_rfl) (by kernel_rfl) (by kernel_rfl) (by kernel_rfl)) ?_
  intro W base args ds gs before hval0 hW hcnd _
  have hval : ∀ (j : Nat) t v, Try.f5.params[j]? = some t → args[j]? = some v → Value.okWide Try.prog W .any base t v := hval0
  have hW' := hW
  obtain ⟨p, q, hA0, hV, rfl, hfz, hnd⟩ := hW
  have hA : DataW.TrodAll enc Try.prog W 0 (fun _ => true) true Try.f5.params.toList args.toList ds p := hA0
  rw [Try.params5] at hA hval
  obtain ⟨v0, vs0, d0, ds0, p0, q0, hargs, rfl, rfl, h0, r0⟩ := trodAll_cons hA
  obtain ⟨v1, vs1, d1, ds1, p1, q1, rfl, rfl, rfl, h1, r1⟩ := trodAll_cons r0
  obtain ⟨v2, vs2, d2, ds2, p2, q2, rfl, rfl, rfl, h2, r2⟩ := trodAll_cons r1
  obtain ⟨rfl, rfl, rfl⟩ := trodAll_nil r2
  obtain rfl : args = #[v0, v1, v2] := by cases args; simp_all
  obtain ⟨rfl, rfl⟩ := trodVars_none hV
  have lt0 : ∀ x ∈ p0, x.block < W.heap.size := by obtain ⟨m, hm⟩ := h0; exact DataW.trod_lt m _ _ _ hm
  have lt1 : ∀ x ∈ p1, x.block < W.heap.size := by obtain ⟨m, hm⟩ := h1; exact DataW.trod_lt m _ _ _ hm
  have lt2 : ∀ x ∈ p2, x.block < W.heap.size := by obtain ⟨m, hm⟩ := h2; exact DataW.trod_lt m _ _ _ hm
  obtain ⟨a0, a1, a2, n0, n1, n2, c0, c1, c2, L, C, Q1, Q2, Q3, E, S, D, rfl, pl, pq, pe, _, _, _, _, _, _, _⟩ := open_policy (hval 0 34 v0 rfl rfl) h0
  obtain ⟨v, rfl, _⟩ := open_i64 (hval 1 3 v1 rfl rfl) h1
  obtain ⟨x, rfl, _⟩ := open_i64 (hval 2 3 v2 rfl rfl) h2
  clear hA0 hval0
  refine (walk a0 a1 a2 n0 n1 n2 c0 c1 c2 L C v x W pl).mono fun e W' ⟨he, bel⟩ => ?_
  subst he
  exact ⟨_, rfl, _, _, _, [], _, [], hW', trodAll_mk1 (shut_bool Try.underlying4 _), (trodAll_cons_mk (Below.trod laidOut (by kernel_rfl) (of_decide_eq_true (by kernel_rfl)) h0 bel lt0) (trodAll_cons_mk (Below.trod laidOut (by kernel_rfl) (of_decide_eq_true (by kernel_rfl)) h1 bel lt1) (trodAll_cons_mk (Below.trod laidOut (by kernel_rfl) (of_decide_eq_true (by kernel_rfl)) h2 bel lt2) trodAll_mk0))), rfl, bel.frame _, fun h => by cases h⟩

theorem proved : Rows.LatticePairsSaid :=
  OpenClaim.holds_of_wide 5 Try.f5 rfl rfl rfl rfl rfl rfl rfl ⟨rfl, rfl, rfl, rfl, rfl⟩ rfl rfl rfl rfl rfl (by kernel_rfl) Try.func5 (by kernel_rfl)
    (of_decide_eq_true (by kernel_rfl)) (by unfold Func.isWrapper; first | (rw [if_pos (by decide +kernel)]; kernel_rfl) | (rw [if_neg (by decide +kernel)]; exact ⟨rfl, rfl⟩))
    (fun os started H enc _ => lifted os started H enc)
#print axioms proved
end Go.Proofs.Ytbahnkomdndmkab.pairs
