/- For every policy the Go function sealskinlaw01.LatticeSeats returns true, and its argument reads as it did. No condition. -/
import Derived.Test.YtbahnkomdndmkabRight
namespace Go.Proofs.Ytbahnkomdndmkab.seats
set_option linter.unusedVariables false
set_option linter.unusedSimpArgs false
open Go.ChangeShapes Go.WideShapes Go.ChangeAt Go.RowKit

theorem at1_self {n k : Nat} {L C : Nat → Int} {r : Int} (h : At1 n L C (L k) (C k) r) (hk : k < n) (hd : ∀ i, i < k → ¬ (L i = L k ∧ C i = C k)) : r = k := by
  rcases h with ⟨_, h⟩ | ⟨j, hj, rfl, he, hf⟩
  · exact absurd ⟨rfl, rfl⟩ (h k hk)
  · by_cases h1 : j < k
    · exact absurd he (hd j h1)
    · by_cases h2 : k < j
      · exact absurd ⟨rfl, rfl⟩ (hf k h2)
      · have : j = k := by omega
        rw [this]

set_option maxHeartbeats 400000 in
theorem at_self (a0 a1 a2 : Option Addr) (n0 n1 n2 c0 c1 c2 : Nat) (L C : Nat → Int) (k : Nat) (w : World) (hp : PolLabs w a0 n0 L C) (hk : k < n0) (hd : ∀ i, i < k → ¬ (L i = L k ∧ C i = C k)) :
    Calls Try.prog 23 #[.agg #[.slice a0 n0 c0, .slice a1 n1 c1, .slice a2 n2 c2], .agg #[.int .i64 (L k), .int .u32 (C k)]] w fun e w' => e = .returned (.tuple #[.int .i64 (k : Int), .bool true]) ∧ Below w.heap.size w w' := by
  have HD := hide hd
  clear hd
  have hB : Below w.heap.size w ((w.alloc (.cells #[.slice a0 n0 c0, .slice a1 n1 c1, .slice a2 n2 c2] 34)).alloc (.cells #[.int .i64 (L k), .int .u32 (C k)] 24)) := by go_grown
  have hz : w.heap.size ≤ ((w.alloc (.cells #[.slice a0 n0 c0, .slice a1 n1 c1, .slice a2 n2 c2] 34)).alloc (.cells #[.int .i64 (L k), .int .u32 (C k)] 24)).heap.size := hB.size
  go_enter Try.func23, Try.ntmps23
  go_wp2_with fail
  refine (indexl_any a0 n0 c0 L C (L k) (C k) _ (hp.call hB)).mono ?_
  rintro e w1 ⟨⟨r, rfl, hr⟩, hb1⟩
  obtain rfl := at1_self hr hk (unhide HD)
  clear hr
  have hge : ¬ (k : Int) < 0 := by omega
  go_wp2
  go_ret2
  exact ⟨rfl, hB.trans (hb1.mono hz)⟩

theorem right_zero {n0 n1 n2 : Nat} {L C Q1 Q2 Q3 E : Nat → Int} {S : Nat → ByteArray} (h : rightN n0 n1 n2 L C Q1 Q2 Q3 E S = 0) :
    n1 = n0 ∧ (∀ k, k < n0 → ∀ i, i < k → ¬ (L i = L k ∧ C i = C k)) ∧ (∀ k, k < n0 → 0 ≤ Q3 k) ∧ ∀ k, k < n2 → (0 ≤ E k ∧ E k < n0) ∧ 1 ≤ (S k).size := by
  unfold rightN at h
  split at h
  · rename_i hh
    simp only [Bool.and_eq_true] at hh
    obtain ⟨⟨h1, h2⟩, h3⟩ := hh
    simp only [labelsB, quotasB, entriesB, Bool.and_eq_true, beq_iff_eq] at h1 h2 h3
    have e : n1 = n0 := by omega
    refine ⟨e, fun k hk => ?_, fun k hk => ?_, fun k hk => ?_⟩
    · have := allB_get h1.2 hk
      simp only [labelB, Bool.and_eq_true, Bool.not_eq_true'] at this
      exact dup_of this.2
    · have := allB_get h2.2 (by omega : k < n1)
      simp only [quotaB, withinB, Bool.and_eq_true, decide_eq_true_eq] at this
      exact this.2.1
    · have := allB_get h3.2 hk
      simp only [entryB, withinB, Bool.and_eq_true, decide_eq_true_eq] at this
      obtain ⟨⟨p1, p2⟩, p3, p4⟩ := this
      exact ⟨⟨p1, by omega⟩, by omega⟩
  · cases h

theorem bx {wr w' : World} {v0 v1 v2 : Value} {t : TypeId} (hb : Below (wr.alloc (.cells #[v0, v1, v2] t)).heap.size (wr.alloc (.cells #[v0, v1, v2] t)) w') :
    w'.cell? ⟨wr.heap.size, 0, none⟩ = some v0 ∧ w'.cell? ⟨wr.heap.size, 1, none⟩ = some v1 ∧ w'.cell? ⟨wr.heap.size, 2, none⟩ = some v2 :=
  ⟨cell_keep hb (by simp) (by simp [go_sem]), cell_keep hb (by simp) (by simp [go_sem]), cell_keep hb (by simp) (by simp [go_sem])⟩

theorem sees_self (n : Nat) (L C : Nat → Int) (u : Int) (hC : ∀ i, i < n → U32 (C i)) (h0 : 0 ≤ u) (h1 : u < n) : seesB n L C u u = true := by
  have hp : placeB u n = true := by simp [placeB]; omega
  have := below_refl (L u.toNat) (C u.toNat) (hC _ (by omega))
  simp [seesB, hp, this]

set_option maxHeartbeats 2000000 in
theorem walk (a0 a1 a2 : Option Addr) (n0 n1 n2 c0 c1 c2 : Nat) (L C Q1 Q2 Q3 E : Nat → Int) (S : Nat → ByteArray) (D : Nat → Bool) (w : World)
    (pl : PolLabs w a0 n0 L C) (pq : PolQuos w a1 n1 Q1 Q2 Q3) (pe : PolEnts w a2 n2 E S D) (hc0 : n0 ≤ c0) (hm0 : c0 ≤ maxLen) :
    Calls Try.prog 7 #[.agg #[.slice a0 n0 c0, .slice a1 n1 c1, .slice a2 n2 c2]] w fun e w' => e = .returned (.bool true) ∧ Below w.heap.size w w' := by
  have hst := PB.start w (.slice a0 n0 c0) (.slice a1 n1 c1) (.slice a2 n2 c2)
  cases hl : longB n0 n1 n2
  · by_cases hr : rightN n0 n1 n2 L C Q1 Q2 Q3 E S = 0
    · obtain ⟨rfl, hd, hq, he⟩ := right_zero hr
      have HD := hide hd
      have HQ := hide hq
      have HE := hide he
      clear hd hq he
      have hn : n1 ≤ 200 := by simp [longB] at hl; omega
      have hn2 : n2 ≤ 200 := by simp [longB] at hl; omega
      have hC := hide pl.2.1
      go_enter Try.func7, Try.ntmps7
      go_wp2_with (first
      | (go_at_call 12; refine (long_any _ _ _ _ _ _ _ _ _ _).mono ?_; rintro e w' ⟨rfl, hb⟩; have hS := PB.call (by assumption) hb; have hF := hS.1; clear hb)
      | (go_at_call 22; refine (right_any _ _ _ _ _ _ _ _ _ L C Q1 Q2 Q3 E S D _ ?_ ?_ ?_ hc0 hm0).mono ?_; (exact pl.call (PB.bel (by assumption))); (exact pq.call (PB.bel (by assumption))); (exact pe.call (PB.bel (by assumption))); rintro e w' ⟨rfl, hb⟩; have hS := PB.call (by assumption) hb; have hF := hS.1; clear hb)
      | (go_at_call 11; refine (awake_any _).mono ?_; rintro e w' ⟨rfl, hb⟩; have hS := PB.call (by assumption) hb; clear hb))
      go_loopw [20] (fun i wr => ∃ k : Nat, k ≤ n1 ∧ i = .int .i64 k ∧ PB w (.slice a0 n1 c0) (.slice a1 n1 c1) (.slice a2 n2 c2) wr) (fun i _ => n1 - (intOf i).toNat)
      case atStart => exact ⟨0, Nat.zero_le _, rfl, hS⟩
      case round =>
        obtain ⟨k, hk, rfl, hR⟩ := hrel
        have hF := hR.1
        by_cases hlt : k < n1
        · rcases pl.2.2 with h0 | ⟨b, off, rfl, hb, hrow⟩
          · omega
          rcases pq.2.2 with h0 | ⟨b2, off2, rfl, hb2, hrow2⟩
          · omega
          have hc := (hrow.below hR.2.2 hb) k hlt
          have hst1 := PB.call hR ((Below.refl _ _).alloc (Nat.le_refl _) (.cells #[.int .i64 (L k), .int .u32 (C k)] 24))
          have hz1 := hR.2.1
          have hF1 := hst1.1
          have hne : ((k : Int) != (k : Int)) = false := by simp
          have hsq : ¬ Q3 k < 0 := by have := unhide HQ k hlt; omega
          have hsq' : decide (Q3 k < 0) = false := by simpa using hsq
          have g0 : (0 : Int) ≤ (k : Int) := by omega
          have g1 : (k : Int) < (n1 : Int) := by omega
          go_wp2_with (go_at_call 23; refine (at_self _ _ _ _ _ _ _ _ _ L C k _ ?_ hlt (unhide HD k hlt)).mono ?_; (exact pl.call (PB.bel (by assumption))); rintro e w' ⟨rfl, hb⟩; have hS2 := PB.call (by assumption) hb; have hF2 := hS2.1; have hcq := (hrow2.below hS2.2.2 hb2) k hlt; clear hb)
          go_roundw
          case rel => exact ⟨k + 1, by omega, by go_num, hS2⟩
          case measure => simp [intOf]; omega
        · go_wp2_with fail
          go_loopw [51] (fun i wr => ∃ k : Nat, k ≤ n2 ∧ i = .int .i64 k ∧ PB w (.slice a0 n1 c0) (.slice a1 n1 c1) (.slice a2 n2 c2) wr) (fun i _ => n2 - (intOf i).toNat)
          case atStart => exact ⟨0, Nat.zero_le _, rfl, hR⟩
          case round =>
            obtain ⟨j, hj, rfl, hR2⟩ := hrel
            have hG := hR2.1
            by_cases hlt2 : j < n2
            · rcases pe.2.2 with h0 | ⟨b, off, rfl, hb, hrow⟩
              · omega
              have hc := (hrow.below hR2.2.2 hb) j hlt2
              have hst1 := PB.call hR2 ((Below.refl _ _).alloc (Nat.le_refl _) (.cells #[.int .i64 (E j), .string (S j), .bool (D j)] 47))
              have hz1 := hR2.2.1
              have hF1 := hst1.1
              have hej := unhide HE j hlt2
              have hsee := sees_self n1 L C (E j) (unhide hC) hej.1.1 hej.1.2
              have hemp : (S j).toList.isEmpty = false := by
                rw [List.isEmpty_eq_false_iff]
                intro h
                have hz : (S j).toList.length = 0 := by rw [h]; rfl
                rw [ByteArray.toList_eq, Array.length_toList] at hz
                have : (S j).size = 0 := hz
                omega
              clear hej
              go_wp2_with (go_at_call 13; refine (sees_any _ _ _ _ _ _ _ _ _ L C _ _ _ ?_).mono ?_; (exact pl.call (PB.bel (by assumption))); rintro e w' ⟨rfl, hb⟩; have hS3 := PB.call (by assumption) hb; have hF3 := hS3.1; have hbx := bx hb; clear hb)
              go_roundw
              case rel => exact ⟨j + 1, by omega, by go_num, hS3⟩
              case measure => simp [intOf]; omega
            · go_wp2_with (go_at_call 11; refine (awake_any _).mono ?_; rintro e w' ⟨rfl, hb⟩; have hS3 := PB.call (by assumption) hb; clear hb)
              go_ret
              exact ⟨rfl, hS3.2.2⟩
    · have hr' : (rightN n0 n1 n2 L C Q1 Q2 Q3 E S != 0) = true := by simpa using hr
      go_enter Try.func7, Try.ntmps7
      go_wp2_with (first
      | (go_at_call 12; refine (long_any _ _ _ _ _ _ _ _ _ _).mono ?_; rintro e w' ⟨rfl, hb⟩; have hS := PB.call (by assumption) hb; have hF := hS.1; clear hb)
      | (go_at_call 22; refine (right_any _ _ _ _ _ _ _ _ _ L C Q1 Q2 Q3 E S D _ ?_ ?_ ?_ hc0 hm0).mono ?_; (exact pl.call (PB.bel (by assumption))); (exact pq.call (PB.bel (by assumption))); (exact pe.call (PB.bel (by assumption))); rintro e w' ⟨rfl, hb⟩; have hS := PB.call (by assumption) hb; have hF := hS.1; clear hb)
      | (go_at_call 11; refine (awake_any _).mono ?_; rintro e w' ⟨rfl, hb⟩; have hS := PB.call (by assumption) hb; clear hb))
      go_ret
      exact ⟨rfl, hS.2.2⟩
  · go_enter Try.func7, Try.ntmps7
    go_wp2_with (first
      | (go_at_call 12; refine (long_any _ _ _ _ _ _ _ _ _ _).mono ?_; rintro e w' ⟨rfl, hb⟩; have hS := PB.call (by assumption) hb; have hF := hS.1; clear hb)
      | (go_at_call 22; refine (right_any _ _ _ _ _ _ _ _ _ L C Q1 Q2 Q3 E S D _ ?_ ?_ ?_ hc0 hm0).mono ?_; (exact pl.call (PB.bel (by assumption))); (exact pq.call (PB.bel (by assumption))); (exact pe.call (PB.bel (by assumption))); rintro e w' ⟨rfl, hb⟩; have hS := PB.call (by assumption) hb; have hF := hS.1; clear hb)
      | (go_at_call 11; refine (awake_any _).mono ?_; rintro e w' ⟨rfl, hb⟩; have hS := PB.call (by assumption) hb; clear hb))
    go_ret
    exact ⟨rfl, hS.2.2⟩

set_option maxRecDepth 100000 in
theorem lifted (os : Os) (started : os.Started) (H : Type) (enc : TypeId × Value → H) :
    ReturnsInHanded {} Try.checked os 7 .any (Rows.latticeSeatsSpec.pre6 enc Try.prog Try.f7 Rows.latticeSeatsRow.domain false) (Rows.latticeSeatsSpec.post enc Try.prog Try.f7 false true false false) := by
  refine returnsInHanded_of_change (C := Try.checked) own started (by kernel_rfl) Try.func7
    (ChangeSpec.witness6 (enc := enc) (C := Try.checked) false ⟨#[], #[.agg #[.slice none 0 0, .slice none 0 0, .slice none 0 0]], []⟩ 8 (by kernel_rfl) (by kernel_rfl) (by kernel_rfl) (by kernel_rfl)) ?_
  intro W base args ds gs before hval0 hW hcnd _
  have hval : ∀ (j : Nat) t v, Try.f7.params[j]? = some t → args[j]? = some v → Value.okWide Try.prog W .any base t v := hval0
  have hW' := hW
  obtain ⟨p, q, hA0, hV, rfl, hfz, hnd⟩ := hW
  have hA : DataW.TrodAll enc Try.prog W 0 (fun _ => true) true Try.f7.params.toList args.toList ds p := hA0
  rw [Try.params7] at hA hval
  obtain ⟨v0, vs0, d0, ds0, p0, q0, hargs, rfl, rfl, h0, r0⟩ := trodAll_cons hA
  obtain ⟨rfl, rfl, rfl⟩ := trodAll_nil r0
  obtain rfl : args = #[v0] := by cases args; simp_all
  obtain ⟨rfl, rfl⟩ := trodVars_none hV
  have lt0 : ∀ x ∈ p0, x.block < W.heap.size := by obtain ⟨m, hm⟩ := h0; exact DataW.trod_lt m _ _ _ hm
  obtain ⟨a0, a1, a2, n0, n1, n2, c0, c1, c2, L, C, Q1, Q2, Q3, E, S, D, rfl, pl, pq, pe, hc0, _, _, hm0, _, _, _⟩ := open_policy (hval 0 34 v0 rfl rfl) h0
  clear hA0 hval0
  refine (walk a0 a1 a2 n0 n1 n2 c0 c1 c2 L C Q1 Q2 Q3 E S D W pl pq pe hc0 hm0).mono fun e W' ⟨he, bel⟩ => ?_
  subst he
  exact ⟨_, rfl, _, _, _, [], _, [], hW', trodAll_mk1 (shut_bool Try.underlying4 _), (trodAll_cons_mk (Below.trod laidOut (by kernel_rfl) (of_decide_eq_true (by kernel_rfl)) h0 bel lt0) trodAll_mk0), rfl, bel.frame _, fun h => by cases h⟩

theorem proved : Rows.LatticeSeatsSaid :=
  OpenClaim.holds_of_wide 7 Try.f7 rfl rfl rfl rfl rfl rfl rfl ⟨rfl, rfl, rfl, rfl, rfl⟩ rfl rfl rfl rfl rfl (by kernel_rfl) Try.func7 (by kernel_rfl)
    (of_decide_eq_true (by kernel_rfl)) (by unfold Func.isWrapper; first | (rw [if_pos (by decide +kernel)]; kernel_rfl) | (rw [if_neg (by decide +kernel)]; exact ⟨rfl, rfl⟩))
    (fun os started H enc _ => lifted os started H enc)
#print axioms proved
end Go.Proofs.Ytbahnkomdndmkab.seats
