/- For every policy and all places u, v, x the Go function sealskinlaw01.LatticeThrough returns true, and its arguments read as they did. No condition. -/
import Derived.Test.YtbahnkomdndmkabPolicy
namespace Go.Proofs.Ytbahnkomdndmkab.through
set_option linter.unusedVariables false
open Go.ChangeShapes Go.WideShapes Go.ChangeAt Go.RowKit

theorem PB.bel {w W : World} {s0 s1 s2 : Value} (h : PB w s0 s1 s2 W) : Below w.heap.size w W := h.2.2

theorem sees_self (n : Nat) (L C : Nat → Int) (u : Int) (hC : ∀ i, i < n → U32 (C i)) (h0 : 0 ≤ u) (h1 : u < n) : seesB n L C u u = true := by
  have hp : placeB u n = true := by simp [placeB]; omega
  have := below_refl (L u.toNat) (C u.toNat) (hC _ (by omega))
  simp [seesB, hp, this]
theorem place_of {n : Nat} {L C : Nat → Int} {u v : Int} (h : seesB n L C u v = true) : (0 ≤ u ∧ u < n) ∧ (0 ≤ v ∧ v < n) ∧ belowB (L v.toNat) (C v.toNat) (L u.toNat) (C u.toNat) = true := by
  simp only [seesB, Bool.and_eq_true, placeB, decide_eq_true_eq] at h
  exact ⟨h.1.1, h.1.2, h.2⟩
theorem sees_trans (n : Nat) (L C : Nat → Int) (u v x : Int) (hC : ∀ i, i < n → U32 (C i)) (h1 : seesB n L C u v = true) (h2 : seesB n L C v x = true) : seesB n L C u x = true := by
  obtain ⟨a1, a2, a3⟩ := place_of h1
  obtain ⟨b1, b2, b3⟩ := place_of h2
  have := below_trans _ _ _ _ _ _ (hC x.toNat (by omega)) (hC v.toNat (by omega)) (hC u.toNat (by omega)) b3 a3
  have p1 : placeB u n = true := by simp [placeB]; omega
  have p2 : placeB x n = true := by simp [placeB]; omega
  simp [seesB, p1, p2, this]

set_option maxHeartbeats 1000000 in
theorem walk (a0 a1 a2 : Option Addr) (n0 n1 n2 c0 c1 c2 : Nat) (L C : Nat → Int) (u v x : Int) (w : World) (hp : PolLabs w a0 n0 L C) :
    Calls Try.prog 4 #[.agg #[.slice a0 n0 c0, .slice a1 n1 c1, .slice a2 n2 c2], .int .i64 u, .int .i64 v, .int .i64 x] w fun e w' => e = .returned (.bool true) ∧ Below w.heap.size w w' := by
  cases hl : longB n0 n1 n2
  · have hC := hp.2.1
    have hn : n0 ≤ 200 := by
      simp [longB] at hl
      omega
    by_cases h0 : u < 0
    · have e1 : seesB n0 L C u v = false := by
        cases h : seesB n0 L C u v
        · rfl
        · have := (place_of h).1; omega
      have hst := PB.start w (.slice a0 n0 c0) (.slice a1 n1 c1) (.slice a2 n2 c2)
      go_enter Try.func4, Try.ntmps4
      go_wp2_with (first
        | (go_at_call 12; refine (long_any _ _ _ _ _ _ _ _ _ _).mono ?_; rintro e w' ⟨rfl, hb⟩; have hS := PB.call (by assumption) hb; have hF := hS.1; clear hb)
        | (go_at_call 13; refine (sees_any _ _ _ _ _ _ _ _ _ L C _ _ _ ?_).mono ?_; (exact hp.call (PB.bel (by assumption))); rintro e w' ⟨rfl, hb⟩; have hS := PB.call (by assumption) hb; have hF := hS.1; clear hb)
        | (go_at_call 11; refine (awake_any _).mono ?_; rintro e w' ⟨rfl, hb⟩; have hS := PB.call (by assumption) hb; clear hb))
      go_ret
      exact ⟨rfl, hS.2.2⟩
    · have h0' : decide (u < 0) = false := by simpa using h0
      by_cases h1 : (n0 : Int) ≤ u
      · have e1 : seesB n0 L C u v = false := by
          cases h : seesB n0 L C u v
          · rfl
          · have := (place_of h).1; omega
        have hst := PB.start w (.slice a0 n0 c0) (.slice a1 n1 c1) (.slice a2 n2 c2)
        go_enter Try.func4, Try.ntmps4
        go_wp2_with (first
          | (go_at_call 12; refine (long_any _ _ _ _ _ _ _ _ _ _).mono ?_; rintro e w' ⟨rfl, hb⟩; have hS := PB.call (by assumption) hb; have hF := hS.1; clear hb)
          | (go_at_call 13; refine (sees_any _ _ _ _ _ _ _ _ _ L C _ _ _ ?_).mono ?_; (exact hp.call (PB.bel (by assumption))); rintro e w' ⟨rfl, hb⟩; have hS := PB.call (by assumption) hb; have hF := hS.1; clear hb)
          | (go_at_call 11; refine (awake_any _).mono ?_; rintro e w' ⟨rfl, hb⟩; have hS := PB.call (by assumption) hb; clear hb))
        go_ret
        exact ⟨rfl, hS.2.2⟩
      · have h1' : decide ((n0 : Int) ≤ u) = false := by simpa using h1
        have e0 := sees_self n0 L C u hC (by omega) (by omega)
        cases e1 : seesB n0 L C u v
        · clear hC
          have hst := PB.start w (.slice a0 n0 c0) (.slice a1 n1 c1) (.slice a2 n2 c2)
          go_enter Try.func4, Try.ntmps4
          go_wp2_with (first
            | (go_at_call 12; refine (long_any _ _ _ _ _ _ _ _ _ _).mono ?_; rintro e w' ⟨rfl, hb⟩; have hS := PB.call (by assumption) hb; have hF := hS.1; clear hb)
            | (go_at_call 13; refine (sees_any _ _ _ _ _ _ _ _ _ L C _ _ _ ?_).mono ?_; (exact hp.call (PB.bel (by assumption))); rintro e w' ⟨rfl, hb⟩; have hS := PB.call (by assumption) hb; have hF := hS.1; clear hb)
            | (go_at_call 11; refine (awake_any _).mono ?_; rintro e w' ⟨rfl, hb⟩; have hS := PB.call (by assumption) hb; clear hb))
          go_ret
          exact ⟨rfl, hS.2.2⟩
        · cases e2 : seesB n0 L C v x
          · clear hC
            have hst := PB.start w (.slice a0 n0 c0) (.slice a1 n1 c1) (.slice a2 n2 c2)
            go_enter Try.func4, Try.ntmps4
            go_wp2_with (first
              | (go_at_call 12; refine (long_any _ _ _ _ _ _ _ _ _ _).mono ?_; rintro e w' ⟨rfl, hb⟩; have hS := PB.call (by assumption) hb; have hF := hS.1; clear hb)
              | (go_at_call 13; refine (sees_any _ _ _ _ _ _ _ _ _ L C _ _ _ ?_).mono ?_; (exact hp.call (PB.bel (by assumption))); rintro e w' ⟨rfl, hb⟩; have hS := PB.call (by assumption) hb; have hF := hS.1; clear hb)
              | (go_at_call 11; refine (awake_any _).mono ?_; rintro e w' ⟨rfl, hb⟩; have hS := PB.call (by assumption) hb; clear hb))
            go_ret
            exact ⟨rfl, hS.2.2⟩
          · have e3 := sees_trans n0 L C u v x hC e1 e2
            clear hC
            have hst := PB.start w (.slice a0 n0 c0) (.slice a1 n1 c1) (.slice a2 n2 c2)
            go_enter Try.func4, Try.ntmps4
            go_wp2_with (first
              | (go_at_call 12; refine (long_any _ _ _ _ _ _ _ _ _ _).mono ?_; rintro e w' ⟨rfl, hb⟩; have hS := PB.call (by assumption) hb; have hF := hS.1; clear hb)
              | (go_at_call 13; refine (sees_any _ _ _ _ _ _ _ _ _ L C _ _ _ ?_).mono ?_; (exact hp.call (PB.bel (by assumption))); rintro e w' ⟨rfl, hb⟩; have hS := PB.call (by assumption) hb; have hF := hS.1; clear hb)
              | (go_at_call 11; refine (awake_any _).mono ?_; rintro e w' ⟨rfl, hb⟩; have hS := PB.call (by assumption) hb; clear hb))
            go_ret
            exact ⟨rfl, hS.2.2⟩
  · 
    have hst := PB.start w (.slice a0 n0 c0) (.slice a1 n1 c1) (.slice a2 n2 c2)
    go_enter Try.func4, Try.ntmps4
    go_wp2_with (first
      | (go_at_call 12; refine (long_any _ _ _ _ _ _ _ _ _ _).mono ?_; rintro e w' ⟨rfl, hb⟩; have hS := PB.call (by assumption) hb; have hF := hS.1; clear hb)
      | (go_at_call 13; refine (sees_any _ _ _ _ _ _ _ _ _ L C _ _ _ ?_).mono ?_; (exact hp.call (PB.bel (by assumption))); rintro e w' ⟨rfl, hb⟩; have hS := PB.call (by assumption) hb; have hF := hS.1; clear hb)
      | (go_at_call 11; refine (awake_any _).mono ?_; rintro e w' ⟨rfl, hb⟩; have hS := PB.call (by assumption) hb; clear hb))
    go_ret
    exact ⟨rfl, hS.2.2⟩

theorem open_i64 {H : Type} {enc : TypeId × Value → H} {W : World} {b0 base : Nat} {spare : Nat → Bool} {held : Bool} {v : Value} {d : DataW H} {p : List MemPlace}
    (hv : Value.okWide Try.prog W .any b0 3 v) (h : DataW.Trod enc Try.prog W base spare held 3 v d p) : ∃ n : Int, v = .int .i64 n ∧ I64 n := by
  obtain ⟨n, rfl, _, _, wn⟩ := open_int Try.underlying3 hv h
  exact ⟨n, rfl, bounds_i64 wn⟩

set_option maxRecDepth 100000 in
theorem lifted (os : Os) (started : os.Started) (H : Type) (enc : TypeId × Value → H) :
    ReturnsInHanded {} Try.checked os 4 .any (Rows.latticeThroughSpec.pre6 enc Try.prog Try.f4 Rows.latticeThroughRow.domain false) (Rows.latticeThroughSpec.post enc Try.prog Try.f4 false true false false) := by
  refine returnsInHanded_of_change (C := Try.checked) own started (by kernel_rfl) Try.func4
    (ChangeSpec.witness6 (enc := enc) (C := Try.checked) false ⟨#[], #[.agg #[.slice none 0 0, .slice none 0 0, .slice none 0 0], .int .i64 0, .int .i64 0, .int .i64 0], []⟩ 8 (by kernel_rfl) (by kernel_rfl) (by kernel_rfl) (by kernel_rfl)) ?_
  intro W base args ds gs before hval0 hW hcnd _
  have hval : ∀ (j : Nat) t v, Try.f4.params[j]? = some t → args[j]? = some v → Value.okWide Try.prog W .any base t v := hval0
  have hW' := hW
  obtain ⟨p, q, hA0, hV, rfl, hfz, hnd⟩ := hW
  have hA : DataW.TrodAll enc Try.prog W 0 (fun _ => true) true Try.f4.params.toList args.toList ds p := hA0
  rw [Try.params4] at hA hval
  obtain ⟨v0, vs0, d0, ds0, p0, q0, hargs, rfl, rfl, h0, r0⟩ := trodAll_cons hA
  obtain ⟨v1, vs1, d1, ds1, p1, q1, rfl, rfl, rfl, h1, r1⟩ := trodAll_cons r0
  obtain ⟨v2, vs2, d2, ds2, p2, q2, rfl, rfl, rfl, h2, r2⟩ := trodAll_cons r1
  obtain ⟨v3, vs3, d3, ds3, p3, q3, rfl, rfl, rfl, h3, r3⟩ := trodAll_cons r2
  obtain ⟨rfl, rfl, rfl⟩ := trodAll_nil r3
  obtain rfl : args = #[v0, v1, v2, v3] := by cases args; simp_all
  obtain ⟨rfl, rfl⟩ := trodVars_none hV
  have lt0 : ∀ x ∈ p0, x.block < W.heap.size := by obtain ⟨m, hm⟩ := h0; exact DataW.trod_lt m _ _ _ hm
  have lt1 : ∀ x ∈ p1, x.block < W.heap.size := by obtain ⟨m, hm⟩ := h1; exact DataW.trod_lt m _ _ _ hm
  have lt2 : ∀ x ∈ p2, x.block < W.heap.size := by obtain ⟨m, hm⟩ := h2; exact DataW.trod_lt m _ _ _ hm
  have lt3 : ∀ x ∈ p3, x.block < W.heap.size := by obtain ⟨m, hm⟩ := h3; exact DataW.trod_lt m _ _ _ hm
  obtain ⟨a0, a1, a2, n0, n1, n2, c0, c1, c2, L, C, Q1, Q2, Q3, E, S, D, rfl, pl, pq, pe, _, _, _, _, _, _, _⟩ := open_policy (hval 0 34 v0 rfl rfl) h0
  obtain ⟨u, rfl, _⟩ := open_i64 (hval 1 3 v1 rfl rfl) h1
  obtain ⟨v, rfl, _⟩ := open_i64 (hval 2 3 v2 rfl rfl) h2
  obtain ⟨x, rfl, _⟩ := open_i64 (hval 3 3 v3 rfl rfl) h3
  clear hA0 hval0
  refine (walk a0 a1 a2 n0 n1 n2 c0 c1 c2 L C u v x W pl).mono fun e W' ⟨he, bel⟩ => ?_
  subst he
  exact ⟨_, rfl, _, _, _, [], _, [], hW', trodAll_mk1 (shut_bool Try.underlying4 _), (trodAll_cons_mk (Below.trod laidOut (by kernel_rfl) (of_decide_eq_true (by kernel_rfl)) h0 bel lt0) (trodAll_cons_mk (Below.trod laidOut (by kernel_rfl) (of_decide_eq_true (by kernel_rfl)) h1 bel lt1) (trodAll_cons_mk (Below.trod laidOut (by kernel_rfl) (of_decide_eq_true (by kernel_rfl)) h2 bel lt2) (trodAll_cons_mk (Below.trod laidOut (by kernel_rfl) (of_decide_eq_true (by kernel_rfl)) h3 bel lt3) trodAll_mk0)))), rfl, bel.frame _, fun h => by cases h⟩

theorem proved : Rows.LatticeThroughSaid :=
  OpenClaim.holds_of_wide 4 Try.f4 rfl rfl rfl rfl rfl rfl rfl ⟨rfl, rfl, rfl, rfl, rfl⟩ rfl rfl rfl rfl rfl (by kernel_rfl) Try.func4 (by kernel_rfl)
    (of_decide_eq_true (by kernel_rfl)) (by unfold Func.isWrapper; first | (rw [if_pos (by decide +kernel)]; kernel_rfl) | (rw [if_neg (by decide +kernel)]; exact ⟨rfl, rfl⟩))
    (fun os started H enc _ => lifted os started H enc)
#print axioms proved
end Go.Proofs.Ytbahnkomdndmkab.through
