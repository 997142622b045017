/- For every policy, all places v, x and every label the Go function sealskinlaw01.LatticeSight returns true, and its arguments read as they did. No condition. -/
import Derived.Test.YtbahnkomdndmkaaSight0
namespace Go.Proofs.Ytbahnkomdndmkaa.sight
set_option linter.unusedVariables false
set_option linter.unusedSimpArgs false
open Go.ChangeShapes Go.WideShapes Go.ChangeAt Go.RowKit

def atI (r : Int) : Int := if r < 0 then 0 else r
def atB (r : Int) : Bool := !decide (r < 0)
theorem at1_one {n : Nat} {L C : Nat → Int} {l c r s : Int} (h : At1 n L C l c r) (k : At1 n L C l c s) : r = s := by
  rcases h with ⟨rfl, h⟩ | ⟨i, hi, rfl, he, hf⟩
  · rcases k with ⟨rfl, _⟩ | ⟨j, hj, rfl, ke, kf⟩
    · rfl
    · exact absurd ke (h j hj)
  · rcases k with ⟨rfl, k⟩ | ⟨j, hj, rfl, ke, kf⟩
    · exact absurd he (k i hi)
    · by_cases h1 : j < i
      · exact absurd ke (hf j h1)
      · by_cases h2 : i < j
        · exact absurd he (kf i h2)
        · have : i = j := by omega
          rw [this]

def AB (w : World) (s0 s1 s2 : Value) (l c : Int) (w' : World) : Prop :=
  (w'.cell? ⟨w.heap.size + 1, 0, none⟩ = some (.int .i64 l) ∧ w'.cell? ⟨w.heap.size + 1, 1, none⟩ = some (.int .u32 c) ∧ w.heap.size + 1 < w'.heap.size) ∧ PB w s0 s1 s2 w'
theorem AB.start (w : World) (s0 s1 s2 : Value) (l c : Int) : AB w s0 s1 s2 l c ((w.alloc (.cells #[s0, s1, s2] 33)).alloc (.cells #[.int .i64 l, .int .u32 c] 24)) := by
  refine ⟨⟨?_, ?_, ?_⟩, (PB.start w s0 s1 s2).call ((Below.refl _ _).alloc (Nat.le_refl _) _)⟩
  all_goals (simp [go_sem]; done)
theorem AB.call {w W w1 : World} {s0 s1 s2 : Value} {l c : Int} (h : AB w s0 s1 s2 l c W) (hb : Below W.heap.size W w1) : AB w s0 s1 s2 l c w1 := by
  obtain ⟨⟨h0, h1, hs⟩, hp⟩ := h
  have hz := hb.size
  exact ⟨⟨cell_keep hb hs h0, cell_keep hb hs h1, by omega⟩, hp.call hb⟩

set_option maxHeartbeats 400000 in
theorem at_any (a0 a1 a2 : Option Addr) (n0 n1 n2 c0 c1 c2 : Nat) (L C : Nat → Int) (l c : Int) (w : World) (hp : PolLabs w a0 n0 L C) :
    Calls Try.prog 16 #[.agg #[.slice a0 n0 c0, .slice a1 n1 c1, .slice a2 n2 c2], .agg #[.int .i64 l, .int .u32 c]] w fun e w' => (∃ r, e = .returned (.tuple #[.int .i64 (atI r), .bool (atB r)]) ∧ At1 n0 L C l c r) ∧ Below w.heap.size w w' := by
  have hst := AB.start w (.slice a0 n0 c0) (.slice a1 n1 c1) (.slice a2 n2 c2) l c
  have hB := hst.2.2.2
  have hz := hB.size
  have hF := hst.1
  have hG := hst.2.1
  go_enter Try.func16, Try.ntmps16
  go_wp2_with fail
  refine (indexl_any a0 n0 c0 L C l c _ (hp.call hB)).mono ?_
  rintro e w1 ⟨⟨r, rfl, hr⟩, hb1⟩
  have HR := hide hr
  clear hr
  by_cases h0 : r < 0
  · go_wp2
    go_ret2
    exact ⟨⟨r, by simp [atI, atB, h0], unhide HR⟩, hB.trans (hb1.mono hz)⟩
  · go_wp2
    go_ret2
    exact ⟨⟨r, by simp [atI, atB, h0]; omega, unhide HR⟩, hB.trans (hb1.mono hz)⟩

set_option maxHeartbeats 1000000 in
theorem refat_any (a0 a1 a2 : Option Addr) (n0 n1 n2 c0 c1 c2 : Nat) (L C : Nat → Int) (l c : Int) (w : World) (hp : PolLabs w a0 n0 L C) :
    Calls Try.prog 17 #[.agg #[.slice a0 n0 c0, .slice a1 n1 c1, .slice a2 n2 c2], .agg #[.int .i64 l, .int .u32 c]] w fun e w' => (∃ r, e = .returned (.tuple #[.int .i64 (atI r), .bool (atB r)]) ∧ At1 n0 L C l c r) ∧ Below w.heap.size w w' := by
  have hst := AB.start w (.slice a0 n0 c0) (.slice a1 n1 c1) (.slice a2 n2 c2) l c
  have hn : (n0 : Int) ≤ 9223372036854775807 := by have := hp.1; unfold maxLen at this; omega
  go_enter Try.func17, Try.ntmps17
  go_wp2_with fail
  go_loopw [10] (fun i wr => ∃ k : Nat, k ≤ n0 ∧ i = .int .i64 k ∧ (∀ j, j < k → ¬ (L j = l ∧ C j = c)) ∧ AB w (.slice a0 n0 c0) (.slice a1 n1 c1) (.slice a2 n2 c2) l c wr) (fun i _ => n0 - (intOf i).toNat)
  case atStart => exact ⟨0, Nat.zero_le _, rfl, fun j hj => by omega, hst⟩
  case round =>
    obtain ⟨k, hk, rfl, hall, hS⟩ := hrel
    have HA := hide hall
    clear hall
    have hF := hS.1
    have hG := hS.2.1
    by_cases hlt : k < n0
    · rcases hp.2.2 with h0 | ⟨b, off, rfl, hb, hrow⟩
      · omega
      have hc := (hrow.below hS.2.2.2 hb) k hlt
      have g1 : (0 : Int) ≤ (k : Int) := by omega
      have g2 : (k : Int) < (n0 : Int) := by omega
      by_cases heq : L k = l ∧ C k = c
      · obtain ⟨rfl, rfl⟩ := heq
        go_wp2_with fail
        go_quiet (fail)
        go_wp2
        go_ret2
        have h0 : ¬ (k : Int) < 0 := by omega
        exact ⟨⟨(k : Int), by simp [atI, atB, h0], .inr ⟨k, hlt, rfl, ⟨rfl, rfl⟩, unhide HA⟩⟩, (hS.call (Joins.below_draws _ _ nq)).2.2.2⟩
      · have hstep : ∀ j, j < k + 1 → ¬ (L j = l ∧ C j = c) := by
          intro j hj
          by_cases hjk : j = k
          · subst hjk; exact heq
          · exact unhide HA j (by omega)
        have HS := hide hstep
        clear hstep
        by_cases hl : L k = l
        · have hc' : (C k == c) = false := by
            rw [beq_eq_false_iff_ne]
            exact fun h => heq ⟨hl, h⟩
          subst hl
          clear heq
          go_wp2_with fail
          go_quiet (fail)
          go_wp2
          go_roundw
          case rel => exact ⟨k + 1, by omega, by go_num, unhide HS, hS.call (Joins.below_draws _ _ nq)⟩
          case measure => simp [intOf]; omega
        · have hl' : (L k == l) = false := by rw [beq_eq_false_iff_ne]; exact hl
          clear heq hl
          go_wp2_with fail
          go_quiet (fail)
          go_wp2
          go_roundw
          case rel => exact ⟨k + 1, by omega, by go_num, unhide HS, hS.call (Joins.below_draws _ _ nq)⟩
          case measure => simp [intOf]; omega
    · have hkn : k = n0 := by omega
      subst hkn
      go_wp2
      go_ret2
      exact ⟨⟨-1, by simp [atI, atB], .inl ⟨rfl, unhide HA⟩⟩, hS.2.2.2⟩

set_option maxHeartbeats 2000000 in
theorem walk (a0 a1 a2 : Option Addr) (n0 n1 n2 c0 c1 c2 : Nat) (L C : Nat → Int) (v x l c : Int) (w : World) (hp : PolLabs w a0 n0 L C) :
    Calls Try.prog 5 #[.agg #[.slice a0 n0 c0, .slice a1 n1 c1, .slice a2 n2 c2], .int .i64 v, .int .i64 x, .agg #[.int .i64 l, .int .u32 c]] w fun e w' => e = .returned (.bool true) ∧ Below w.heap.size w w' := by
  have hst := AB.start w (.slice a0 n0 c0) (.slice a1 n1 c1) (.slice a2 n2 c2) l c
  cases hl : longB n0 n1 n2
  · have hn : n0 ≤ 200 := by
      simp [longB] at hl
      omega
    have l1 : (vis (fun i => seesB n0 L C (Int.ofNat i) x) n0).length ≤ 200 := Nat.le_trans (vis_le _ _) hn
    have l2 : (vis (fun i => seesB n0 L C v (Int.ofNat i)) n0).length ≤ 200 := Nat.le_trans (vis_le _ _) hn
    go_enter Try.func5, Try.ntmps5
    go_wp2_with fail
    refine (long_any _ _ _ _ _ _ _ _ _ _).mono ?_
    rintro e W0 ⟨rfl, hb0⟩
    rw [hl]
    have hS0 := AB.call hst hb0
    clear hb0 hst
    have hF := hS0.1
    have hG := hS0.2.1
    go_wp2_with fail
    refine (at_any _ _ _ _ _ _ _ _ _ L C l c _ (hp.call hS0.2.2.2)).mono ?_
    rintro e W1 ⟨⟨r1, rfl, hr1⟩, hb1⟩
    have hS1 := AB.call hS0 hb1
    clear hb1 hS0 hF hG
    have hF := hS1.1
    have hG := hS1.2.1
    have HR1 := hide hr1
    clear hr1
    go_wp2_with fail
    refine (refat_any _ _ _ _ _ _ _ _ _ L C l c _ (hp.call hS1.2.2.2)).mono ?_
    rintro e W2 ⟨⟨r2, rfl, hr2⟩, hb2⟩
    obtain rfl := at1_one (unhide HR1) hr2
    have hS2 := (AB.call hS1 hb2).2
    clear hb2 hS1 hF hG hr2 HR1
    have hst' := hS2
    unfold PB at hst'
    generalize atI r1 = ri
    generalize atB r1 = rb
    go_wp2_with fail
    go_region_held3 (fun w' => ((w'.cell? ⟨w.heap.size, 0, none⟩ = some (.slice a0 n0 c0) ∧ w'.cell? ⟨w.heap.size, 1, none⟩ = some (.slice a1 n1 c1) ∧ w'.cell? ⟨w.heap.size, 2, none⟩ = some (.slice a2 n2 c2)) ∧ w.heap.size < w'.heap.size ∧ Below w.heap.size w w'))
      (first | exact PB.drew (by assumption) | exact PB.call (by assumption) (by assumption))
      (first
        | (go_at_call 18; refine (sees_any _ _ _ _ _ _ _ _ _ L C _ _ _ ?_).mono ?_; (exact hp.call (PB.bel (s0 := .slice a0 n0 c0) (s1 := .slice a1 n1 c1) (s2 := .slice a2 n2 c2) (by assumption))); rintro e w' ⟨rfl, hb⟩)
        | (go_at_call 19; refine (refsees_any _ _ _ _ _ _ _ _ _ L C _ _ _ ?_).mono ?_; (exact hp.call (PB.bel (s0 := .slice a0 n0 c0) (s1 := .slice a1 n1 c1) (s2 := .slice a2 n2 c2) (by assumption))); rintro e w' ⟨rfl, hb⟩)
        | (go_at_call 21; refine (list_v _ _ _ _ _ _ _ _ _ L C _ _ ?_ hn).mono ?_; (exact hp.call (PB.bel (s0 := .slice a0 n0 c0) (s1 := .slice a1 n1 c1) (s2 := .slice a2 n2 c2) (by assumption))); rintro e w' ⟨vv, rfl, ho, hb⟩)
        | (go_at_call 23; refine (list_s _ _ _ _ _ _ _ _ _ L C _ _ ?_ hn).mono ?_; (exact hp.call (PB.bel (s0 := .slice a0 n0 c0) (s1 := .slice a1 n1 c1) (s2 := .slice a2 n2 c2) (by assumption))); rintro e w' ⟨vv, rfl, ho, hb⟩)
        | (go_at_call 22; refine (ref_v _ _ _ _ _ _ _ _ _ L C _ _ ?_ hn).mono ?_; (exact hp.call (PB.bel (s0 := .slice a0 n0 c0) (s1 := .slice a1 n1 c1) (s2 := .slice a2 n2 c2) (by assumption))); rintro e w' ⟨vw, rfl, ho2, hb⟩; have ho1 := own_below ho hb)
        | (go_at_call 24; refine (ref_s _ _ _ _ _ _ _ _ _ L C _ _ ?_ hn).mono ?_; (exact hp.call (PB.bel (s0 := .slice a0 n0 c0) (s1 := .slice a1 n1 c1) (s2 := .slice a2 n2 c2) (by assumption))); rintro e w' ⟨vw, rfl, ho2, hb⟩; have ho1 := own_below ho hb)
        | (go_at_call 20; refine (equal_rows _ _ _ _ _ _ ?_ ho1 ho2).mono ?_; (first | exact l1 | exact l2); rintro e w' ⟨rfl, hb⟩)
        | (go_at_call 12; refine (awake_any _).mono ?_; rintro e w' ⟨rfl, hb⟩))
    all_goals go_wp2
    all_goals go_ret
    all_goals
      have hS : PB w (.slice a0 n0 c0) (.slice a1 n1 c1) (.slice a2 n2 c2) w' := by assumption
      exact ⟨rfl, hS.2.2⟩
  · go_enter Try.func5, Try.ntmps5
    go_wp2_with (first
      | (go_at_call 13; refine (long_any _ _ _ _ _ _ _ _ _ _).mono ?_; rintro e w' ⟨rfl, hb⟩; have hS := AB.call (by assumption) hb; have hF := hS.1; clear hb)
      | (go_at_call 12; refine (awake_any _).mono ?_; rintro e w' ⟨rfl, hb⟩; have hS := AB.call (by assumption) hb; clear hb))
    go_ret
    exact ⟨rfl, hS.2.2.2⟩

theorem open_i64 {H : Type} {enc : TypeId × Value → H} {W : World} {b0 base : Nat} {spare : Nat → Bool} {held : Bool} {v : Value} {d : DataW H} {p : List MemPlace}
    (hv : Value.okWide Try.prog W .any b0 3 v) (h : DataW.Trod enc Try.prog W base spare held 3 v d p) : ∃ n : Int, v = .int .i64 n ∧ I64 n := by
  obtain ⟨n, rfl, _, _, wn⟩ := open_int Try.underlying3 hv h
  exact ⟨n, rfl, bounds_i64 wn⟩

set_option maxRecDepth 100000 in
theorem lifted (os : Os) (started : os.Started) (H : Type) (enc : TypeId × Value → H) :
    ReturnsInHanded {} Try.checked os 5 .any (Rows.latticeSightSpec.pre6 enc Try.prog Try.f5 Rows.latticeSightRow.domain false) (Rows.latticeSightSpec.post enc Try.prog Try.f5 false true false false) := by
  refine returnsInHanded_of_change (C := Try.checked) own started (by kernel_rfl) Try.func5
    (ChangeSpec.witness6 (enc := enc) (C := Try.checked) false ⟨#[], #[.agg #[.slice none 0 0, .slice none 0 0, .slice none 0 0], .int .i64 0, .int .i64 0, .agg #[.int .i64 0, .int .u32 0]], []⟩ 8 (by kernel_rfl) (by kernel_rfl) (by kernel_rfl) (by kernel_rfl)) ?_
  intro W base args ds gs before hval0 hW hcnd _
  have hval : ∀ (j : Nat) t v, Try.f5.params[j]? = some t → args[j]? = some v → Value.okWide Try.prog W .any base t v := hval0
  have hW' := hW
  obtain ⟨p, q, hA0, hV, rfl, hfz, hnd⟩ := hW
  have hA : DataW.TrodAll enc Try.prog W 0 (fun _ => true) true Try.f5.params.toList args.toList ds p := hA0
  rw [Try.params5] at hA hval
  obtain ⟨v0, vs0, d0, ds0, p0, q0, hargs, rfl, rfl, h0, r0⟩ := trodAll_cons hA
  obtain ⟨v1, vs1, d1, ds1, p1, q1, rfl, rfl, rfl, h1, r1⟩ := trodAll_cons r0
  obtain ⟨v2, vs2, d2, ds2, p2, q2, rfl, rfl, rfl, h2, r2⟩ := trodAll_cons r1
  obtain ⟨v3, vs3, d3, ds3, p3, q3, rfl, rfl, rfl, h3, r3⟩ := trodAll_cons r2
  obtain ⟨rfl, rfl, rfl⟩ := trodAll_nil r3
  obtain rfl : args = #[v0, v1, v2, v3] := by cases args; simp_all
  obtain ⟨rfl, rfl⟩ := trodVars_none hV
  have lt0 : ∀ x ∈ p0, x.block < W.heap.size := by obtain ⟨m, hm⟩ := h0; exact DataW.trod_lt m _ _ _ hm
  have lt1 : ∀ x ∈ p1, x.block < W.heap.size := by obtain ⟨m, hm⟩ := h1; exact DataW.trod_lt m _ _ _ hm
  have lt2 : ∀ x ∈ p2, x.block < W.heap.size := by obtain ⟨m, hm⟩ := h2; exact DataW.trod_lt m _ _ _ hm
  have lt3 : ∀ x ∈ p3, x.block < W.heap.size := by obtain ⟨m, hm⟩ := h3; exact DataW.trod_lt m _ _ _ hm
  obtain ⟨a0, a1, a2, n0, n1, n2, c0, c1, c2, L, C, Q1, Q2, Q3, E, S, D, rfl, pl, pq, pe, _, _, _, _, _, _, _⟩ := open_policy (hval 0 33 v0 rfl rfl) h0
  obtain ⟨v, rfl, _⟩ := open_i64 (hval 1 3 v1 rfl rfl) h1
  obtain ⟨x, rfl, _⟩ := open_i64 (hval 2 3 v2 rfl rfl) h2
  obtain ⟨l, c, rfl, _, _⟩ := open_label (hval 3 24 v3 rfl rfl) h3
  clear hA0 hval0
  refine (walk a0 a1 a2 n0 n1 n2 c0 c1 c2 L C v x l c W pl).mono fun e W' ⟨he, bel⟩ => ?_
  subst he
  exact ⟨_, rfl, _, _, _, [], _, [], hW', trodAll_mk1 (shut_bool Try.underlying4 _), (trodAll_cons_mk (Below.trod laidOut (by kernel_rfl) (of_decide_eq_true (by kernel_rfl)) h0 bel lt0) (trodAll_cons_mk (Below.trod laidOut (by kernel_rfl) (of_decide_eq_true (by kernel_rfl)) h1 bel lt1) (trodAll_cons_mk (Below.trod laidOut (by kernel_rfl) (of_decide_eq_true (by kernel_rfl)) h2 bel lt2) (trodAll_cons_mk (Below.trod laidOut (by kernel_rfl) (of_decide_eq_true (by kernel_rfl)) h3 bel lt3) trodAll_mk0)))), rfl, bel.frame _, fun h => by cases h⟩

theorem proved : Rows.LatticeSightSaid :=
  OpenClaim.holds_of_wide 5 Try.f5 rfl rfl rfl rfl rfl rfl rfl ⟨rfl, rfl, rfl, rfl, rfl⟩ rfl rfl rfl rfl rfl (by kernel_rfl) Try.func5 (by kernel_rfl)
    (of_decide_eq_true (by kernel_rfl)) (by unfold Func.isWrapper; first | (rw [if_pos (by decide +kernel)]; kernel_rfl) | (rw [if_neg (by decide +kernel)]; exact ⟨rfl, rfl⟩))
    (fun os started H enc _ => lifted os started H enc)
#print axioms proved
end Go.Proofs.Ytbahnkomdndmkaa.sight
