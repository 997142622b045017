/- The document's own Right. -/
import Derived.Test.YthgacmlbmcehmaaDRef
namespace Go.Proofs.Ythgacmlbmcehmaa
set_option linter.unusedVariables false
set_option linter.unusedSimpArgs false
open Go.ChangeShapes Go.WideShapes Go.ChangeAt Go.RowKit Go.Joins Go.Deep

theorem refcheck_any (l c : Int) (w : World) :
    Calls Try.prog 49 #[.agg #[.int .i64 l, .int .u32 c]] w fun e w' => e = .returned (.int .i64 (checkN l)) ∧ Below w.heap.size w w' := by
  by_cases h : 0 ≤ l
  · by_cases h2 : l ≤ 15
    · go_enter Try.func49, Try.ntmps49
      go_wp2
      go_ret
      exact ⟨by simp [checkN, h, h2], by go_grown⟩
    · have h' : decide (l ≤ 15) = false := by simpa using h2
      go_enter Try.func49, Try.ntmps49
      go_wp2
      go_ret
      exact ⟨by simp [checkN, h2], by go_grown⟩
  · have h' : decide (0 ≤ l) = false := by simpa using h
    go_enter Try.func49, Try.ntmps49
    go_wp2
    go_ret
    exact ⟨by simp [checkN]; omega, by go_grown⟩

theorem right_bad {n0 n1 n2 : Nat} {L C Q1 Q2 Q3 E : Nat → Int} {S : Nat → ByteArray} (h : labelsB n0 L C = false ∨ n1 ≠ n0 ∨ entriesB n2 E S n0 = false) : rightN n0 n1 n2 L C Q1 Q2 Q3 E S = 11 := by
  rcases h with h | h | h
  · simp [rightN, h]
  · have : quotasB n1 n0 Q1 Q2 Q3 = false := by
      have : ((n1 : Int) == (n0 : Int)) = false := by simp; omega
      simp [quotasB, this]
    simp [rightN, this]
  · simp [rightN, h]
theorem right_badq {n0 n1 n2 : Nat} {L C Q1 Q2 Q3 E : Nat → Int} {S : Nat → ByteArray} {k : Nat} (hk : k < n1) (h : quotaB (Q1 k) (Q2 k) (Q3 k) = false) : rightN n0 n1 n2 L C Q1 Q2 Q3 E S = 11 := by
  have : quotasB n1 n0 Q1 Q2 Q3 = false := by
    have := allB_false (P := fun i => quotaB (Q1 i) (Q2 i) (Q3 i)) hk h
    simp [quotasB, this]
  simp [rightN, this]
theorem right_badl {n0 n1 n2 : Nat} {L C Q1 Q2 Q3 E : Nat → Int} {S : Nat → ByteArray} {k : Nat} (hk : k < n0) (h : labelB L C k = false) : rightN n0 n1 n2 L C Q1 Q2 Q3 E S = 11 :=
  right_bad (.inl (by simp [labelsB, allB_false hk h]))
theorem right_bade {n0 n1 n2 : Nat} {L C Q1 Q2 Q3 E : Nat → Int} {S : Nat → ByteArray} {k : Nat} (hk : k < n2) (h : entryB (E k) (S k) n0 = false) : rightN n0 n1 n2 L C Q1 Q2 Q3 E S = 11 :=
  right_bad (.inr (.inr (by
    have := allB_false (P := fun i => entryB (E i) (S i) n0) hk h
    simp [entriesB, this])))
theorem right_good {n0 n2 : Nat} {L C Q1 Q2 Q3 E : Nat → Int} {S : Nat → ByteArray} (h1 : withinB n0 1 32 = true) (h2 : withinB n2 1 8 = true) (hl : ∀ k, k < n0 → labelB L C k = true) (hq : ∀ k, k < n0 → quotaB (Q1 k) (Q2 k) (Q3 k) = true) (he : ∀ k, k < n2 → entryB (E k) (S k) n0 = true) : rightN n0 n0 n2 L C Q1 Q2 Q3 E S = 0 := by
  have e1 := allB_true hl
  have e2 := allB_true (P := fun i => quotaB (Q1 i) (Q2 i) (Q3 i)) hq
  have e3 := allB_true (P := fun i => entryB (E i) (S i) n0) he
  simp [rightN, labelsB, quotasB, entriesB, h1, h2, e1, e2, e3]


theorem Box3.keep {wr w' : World} {v0 v1 v2 : Value} {t : TypeId} (hb : Below (wr.alloc (.cells #[v0, v1, v2] t)).heap.size (wr.alloc (.cells #[v0, v1, v2] t)) w') :
    w'.cell? ⟨wr.heap.size, 0, none⟩ = some v0 ∧ w'.cell? ⟨wr.heap.size, 1, none⟩ = some v1 ∧ w'.cell? ⟨wr.heap.size, 2, none⟩ = some v2 :=
  ⟨cell_keep hb (by simp) (by simp [go_sem]), cell_keep hb (by simp) (by simp [go_sem]), cell_keep hb (by simp) (by simp [go_sem])⟩

set_option maxRecDepth 100000 in
set_option maxHeartbeats 4000000 in
theorem right_in (a0 a1 a2 : Option Addr) (n0 n2 c0 c1 c2 : Nat) (L C Q1 Q2 Q3 E : Nat → Int) (S : Nat → ByteArray) (D : Nat → Bool) (w : World)
    (pl : PolLabs w a0 n0 L C) (pq : PolQuos w a1 n0 Q1 Q2 Q3) (pe : PolEnts w a2 n2 E S D) (ha : ¬ (n0 : Int) < 1) (hb : ¬ 32 < (n0 : Int)) (hd : ¬ (n2 : Int) < 1) (he : ¬ 8 < (n2 : Int)) :
    Calls Try.prog 38 #[.agg #[.slice a0 n0 c0, .slice a1 n0 c1, .slice a2 n2 c2]] w fun e w' => e = .returned (.int .i64 (rightN n0 n0 n2 L C Q1 Q2 Q3 E S)) ∧ Below w.heap.size w w' := by
  have hst := PB.start w (.slice a0 n0 c0) (.slice a1 n0 c1) (.slice a2 n2 c2)
  have ha' : decide ((n0 : Int) < 1) = false := by simpa using ha
  have hb' : decide (32 < (n0 : Int)) = false := by simpa using hb
  have hc' : ((n0 : Int) != (n0 : Int)) = false := by simp
  have hd' : decide ((n2 : Int) < 1) = false := by simpa using hd
  have he' : decide (8 < (n2 : Int)) = false := by simpa using he
  have hw1 : withinB n0 1 32 = true := by simp [withinB]; omega
  have hw2 : withinB n2 1 8 = true := by simp [withinB]; omega
  have HW1 := hide hw1
  have HW2 := hide hw2
  clear hw1 hw2
  go_enter Try.func38, Try.ntmps38
  go_wp2_with fail
  go_loopw [38] (fun i wr => ∃ k : Nat, k ≤ n0 ∧ i = .int .i64 k ∧ (∀ j, j < k → labelB L C j = true ∧ quotaB (Q1 j) (Q2 j) (Q3 j) = true) ∧ PB w (.slice a0 n0 c0) (.slice a1 n0 c1) (.slice a2 n2 c2) wr) (fun i _ => n0 - (intOf i).toNat)
  case atStart => exact ⟨0, Nat.zero_le _, rfl, fun j hj => by omega, hst⟩
  case round =>
    obtain ⟨k, hk, rfl, hall, hR⟩ := hrel
    have HA := hide hall
    clear hall
    have hF := hR.1
    by_cases hlt : k < n0
    · rcases pl.2.2 with h0 | ⟨b, off, rfl, hlb, hrow⟩
      · omega
      rcases pq.2.2 with h0 | ⟨b2, off2, rfl, hlb2, hrow2⟩
      · omega
      have hc := (hrow.below hR.2.2 hlb) k hlt
      have hcq := (hrow2.below hR.2.2 hlb2) k hlt
      have hst1 := PB.call hR ((Below.refl _ _).alloc (Nat.le_refl _) (.cells #[.int .i64 (Q1 k), .int .i64 (Q2 k), .int .i64 (Q3 k)] 60))
      have hz1 := hR.2.1
      have hF1 := hst1.1
      have hc1 := (hrow.below hst1.2.2 hlb) k hlt
      have g0 : (0 : Int) ≤ (k : Int) := by omega
      have g1 : (k : Int) < (n0 : Int) := by omega
      by_cases hck : checkN (L k) = 0
      · have hck' : (checkN (L k) != 0) = false := by simp [hck]
        have HK := hide hck
        clear hck
        by_cases q1 : Q1 k < 0
        · have hbad : quotaB (Q1 k) (Q2 k) (Q3 k) = false := by
            cases h : quotaB (Q1 k) (Q2 k) (Q3 k)
            · rfl
            · simp only [quotaB, withinB, Bool.and_eq_true, decide_eq_true_eq] at h
              omega
          have hr : rightN n0 n0 n2 L C Q1 Q2 Q3 E S = 11 := right_badq hlt hbad
          clear hbad
          go_wp2_with (go_at_call 49; refine (refcheck_any _ _ _).mono ?_; rintro e w' ⟨rfl, hb⟩; have hS2 := PB.call (by assumption) hb; have hF2 := hS2.1; have hbx := Box3.keep hb; clear hb)
          go_ret
          exact ⟨by first | rfl | (rw [hr]; rfl), hS2.2.2⟩
        have q1' : decide (Q1 k < 0) = false := by simpa using q1
        by_cases q2 : 4096 < Q1 k
        · have hbad : quotaB (Q1 k) (Q2 k) (Q3 k) = false := by
            cases h : quotaB (Q1 k) (Q2 k) (Q3 k)
            · rfl
            · simp only [quotaB, withinB, Bool.and_eq_true, decide_eq_true_eq] at h
              omega
          have hr : rightN n0 n0 n2 L C Q1 Q2 Q3 E S = 11 := right_badq hlt hbad
          clear hbad
          go_wp2_with (go_at_call 49; refine (refcheck_any _ _ _).mono ?_; rintro e w' ⟨rfl, hb⟩; have hS2 := PB.call (by assumption) hb; have hF2 := hS2.1; have hbx := Box3.keep hb; clear hb)
          go_ret
          exact ⟨by first | rfl | (rw [hr]; rfl), hS2.2.2⟩
        have q2' : decide (4096 < Q1 k) = false := by simpa using q2
        by_cases q3 : Q2 k < 0
        · have hbad : quotaB (Q1 k) (Q2 k) (Q3 k) = false := by
            cases h : quotaB (Q1 k) (Q2 k) (Q3 k)
            · rfl
            · simp only [quotaB, withinB, Bool.and_eq_true, decide_eq_true_eq] at h
              omega
          have hr : rightN n0 n0 n2 L C Q1 Q2 Q3 E S = 11 := right_badq hlt hbad
          clear hbad
          go_wp2_with (go_at_call 49; refine (refcheck_any _ _ _).mono ?_; rintro e w' ⟨rfl, hb⟩; have hS2 := PB.call (by assumption) hb; have hF2 := hS2.1; have hbx := Box3.keep hb; clear hb)
          go_ret
          exact ⟨by first | rfl | (rw [hr]; rfl), hS2.2.2⟩
        have q3' : decide (Q2 k < 0) = false := by simpa using q3
        by_cases q4 : 4096 < Q2 k
        · have hbad : quotaB (Q1 k) (Q2 k) (Q3 k) = false := by
            cases h : quotaB (Q1 k) (Q2 k) (Q3 k)
            · rfl
            · simp only [quotaB, withinB, Bool.and_eq_true, decide_eq_true_eq] at h
              omega
          have hr : rightN n0 n0 n2 L C Q1 Q2 Q3 E S = 11 := right_badq hlt hbad
          clear hbad
          go_wp2_with (go_at_call 49; refine (refcheck_any _ _ _).mono ?_; rintro e w' ⟨rfl, hb⟩; have hS2 := PB.call (by assumption) hb; have hF2 := hS2.1; have hbx := Box3.keep hb; clear hb)
          go_ret
          exact ⟨by first | rfl | (rw [hr]; rfl), hS2.2.2⟩
        have q4' : decide (4096 < Q2 k) = false := by simpa using q4
        by_cases q5 : Q3 k < 0
        · have hbad : quotaB (Q1 k) (Q2 k) (Q3 k) = false := by
            cases h : quotaB (Q1 k) (Q2 k) (Q3 k)
            · rfl
            · simp only [quotaB, withinB, Bool.and_eq_true, decide_eq_true_eq] at h
              omega
          have hr : rightN n0 n0 n2 L C Q1 Q2 Q3 E S = 11 := right_badq hlt hbad
          clear hbad
          go_wp2_with (go_at_call 49; refine (refcheck_any _ _ _).mono ?_; rintro e w' ⟨rfl, hb⟩; have hS2 := PB.call (by assumption) hb; have hF2 := hS2.1; have hbx := Box3.keep hb; clear hb)
          go_ret
          exact ⟨by first | rfl | (rw [hr]; rfl), hS2.2.2⟩
        have q5' : decide (Q3 k < 0) = false := by simpa using q5
        by_cases q6 : 4096 < Q3 k
        · have hbad : quotaB (Q1 k) (Q2 k) (Q3 k) = false := by
            cases h : quotaB (Q1 k) (Q2 k) (Q3 k)
            · rfl
            · simp only [quotaB, withinB, Bool.and_eq_true, decide_eq_true_eq] at h
              omega
          have hr : rightN n0 n0 n2 L C Q1 Q2 Q3 E S = 11 := right_badq hlt hbad
          clear hbad
          go_wp2_with (go_at_call 49; refine (refcheck_any _ _ _).mono ?_; rintro e w' ⟨rfl, hb⟩; have hS2 := PB.call (by assumption) hb; have hF2 := hS2.1; have hbx := Box3.keep hb; clear hb)
          go_ret
          exact ⟨by first | rfl | (rw [hr]; rfl), hS2.2.2⟩
        have q6' : decide (4096 < Q3 k) = false := by simpa using q6
        have hquo : quotaB (Q1 k) (Q2 k) (Q3 k) = true := by
          simp only [quotaB, withinB, Bool.and_eq_true, decide_eq_true_eq]
          omega
        have HQ := hide hquo
        clear hquo
        go_wp2_with (go_at_call 49; refine (refcheck_any _ _ _).mono ?_; rintro e w' ⟨rfl, hb⟩; have hS2 := PB.call (by assumption) hb; have hF2 := hS2.1; have hbx := Box3.keep hb; clear hb)
        go_loopw [84] (fun i wr2 => ∃ m : Nat, m ≤ k ∧ i = .int .i64 m ∧ (∀ j, j < m → ¬ (L j = L k ∧ C j = C k)) ∧ PB w (.slice (some ⟨b, off, none⟩) n0 c0) (.slice (some ⟨b2, off2, none⟩) n0 c1) (.slice a2 n2 c2) wr2) (fun i _ => k - (intOf i).toNat)
        case atStart => exact ⟨0, Nat.zero_le _, rfl, fun j hj => by omega, hS2⟩
        case round =>
          obtain ⟨m, hm, rfl, hdup, hR2⟩ := hrel
          have HDu := hide hdup
          clear hdup
          have hF3 := hR2.1
          by_cases hlt2 : m < k
          · have hcm := (hrow.below hR2.2.2 hlb) m (by omega)
            have hck2 := (hrow.below hR2.2.2 hlb) k hlt
            have g2 : (0 : Int) ≤ (m : Int) := by omega
            have g3 : (m : Int) < (n0 : Int) := by omega
            by_cases heq : L m = L k ∧ C m = C k
            · have hr : rightN n0 n0 n2 L C Q1 Q2 Q3 E S = 11 := right_badl hlt (by simp [labelB, dup_true hlt2 heq])
              have e1 : (L m == L k) = true := by simp [heq.1]
              have e2 : (C m == C k) = true := by simp [heq.2]
              clear heq
              go_wp2_with fail
              go_quiet (fail)
              go_wp2
              go_ret
              exact ⟨by first | rfl | (rw [hr]; rfl), (hR2.call (Joins.below_draws _ _ nq)).2.2⟩
            · have hstep : ∀ j, j < m + 1 → ¬ (L j = L k ∧ C j = C k) := by
                intro j hj
                by_cases hjm : j = m
                · subst hjm; exact heq
                · exact unhide HDu j (by omega)
              have HSt := hide hstep
              clear hstep
              by_cases hl : L m = L k
              · have e1 : (L m == L k) = true := by simp [hl]
                have e2 : (C m == C k) = false := by
                  rw [beq_eq_false_iff_ne]
                  exact fun h => heq ⟨hl, h⟩
                clear heq hl
                go_wp2_with fail
                go_quiet (fail)
                go_wp2
                go_roundw
                case rel => exact ⟨m + 1, by omega, by go_num, unhide HSt, hR2.call (Joins.below_draws _ _ nq)⟩
                case measure => simp [intOf]; omega
              · have e1 : (L m == L k) = false := by rw [beq_eq_false_iff_ne]; exact hl
                clear heq hl
                go_wp2_with fail
                go_quiet (fail)
                go_wp2
                go_roundw
                case rel => exact ⟨m + 1, by omega, by go_num, unhide HSt, hR2.call (Joins.below_draws _ _ nq)⟩
                case measure => simp [intOf]; omega
          · have hmk : m = k := by omega
            subst hmk
            have hlab : labelB L C m = true := by simp [labelB, unhide HK, dup_false (unhide HDu)]
            have HL := hide hlab
            clear hlab
            go_wp2_with fail
            go_roundw
            case rel =>
              refine ⟨m + 1, by omega, by go_num, fun j hj => ?_, hR2⟩
              by_cases hjm : j = m
              · subst hjm; exact ⟨unhide HL, unhide HQ⟩
              · exact unhide HA j (by omega)
            case measure => simp [intOf]; omega
      · have hck' : (checkN (L k) != 0) = true := by simp [hck]
        have hr : rightN n0 n0 n2 L C Q1 Q2 Q3 E S = 11 := right_badl hlt (by simp [labelB, hck])
        clear hck
        go_wp2_with (go_at_call 49; refine (refcheck_any _ _ _).mono ?_; rintro e w' ⟨rfl, hb⟩; have hS2 := PB.call (by assumption) hb; have hF2 := hS2.1; have hbx := Box3.keep hb; clear hb)
        go_ret
        exact ⟨by first | rfl | (rw [hr]; rfl), hS2.2.2⟩
    · have hkn : k = n0 := by omega
      subst hkn
      go_wp2_with fail
      go_loopw [103] (fun i wr2 => ∃ m : Nat, m ≤ n2 ∧ i = .int .i64 m ∧ (∀ j, j < m → entryB (E j) (S j) k = true) ∧ PB w (.slice a0 k c0) (.slice a1 k c1) (.slice a2 n2 c2) wr2) (fun i _ => n2 - (intOf i).toNat)
      case atStart => exact ⟨0, Nat.zero_le _, rfl, fun j hj => by omega, hR⟩
      case round =>
        obtain ⟨m, hm, rfl, hent, hR2⟩ := hrel
        have HEn := hide hent
        clear hent
        have hF3 := hR2.1
        by_cases hlt2 : m < n2
        · rcases pe.2.2 with h0 | ⟨b, off, rfl, hlb, hrow⟩
          · omega
          have hcm := (hrow.below hR2.2.2 hlb) m hlt2
          have hbel2 : ∀ o, PB w (.slice a0 k c0) (.slice a1 k c1) (.slice (some ⟨b, off, none⟩) n2 c2) (wr.alloc o) := fun o => hR2.call ((Below.refl _ _).alloc (Nat.le_refl _) o)
          have HB := hide hbel2
          clear hbel2
          by_cases t1 : E m < 0
          · have hr : rightN k k n2 L C Q1 Q2 Q3 E S = 11 := right_bade hlt2 (by simp [entryB, withinB]; omega)
            go_wp2_with fail
            go_ret
            exact ⟨by first | rfl | (rw [hr]; rfl), (unhide HB _).2.2⟩
          have t1' : decide (E m < 0) = false := by simpa using t1
          by_cases t2 : (k : Int) ≤ E m
          · have hr : rightN k k n2 L C Q1 Q2 Q3 E S = 11 := right_bade hlt2 (by simp [entryB, withinB]; omega)
            go_wp2_with fail
            go_ret
            exact ⟨by first | rfl | (rw [hr]; rfl), (unhide HB _).2.2⟩
          have t2' : decide ((k : Int) ≤ E m) = false := by simpa using t2
          by_cases t3 : (S m).size = 0
          · have hr : rightN k k n2 L C Q1 Q2 Q3 E S = 11 := right_bade hlt2 (by simp [entryB, withinB]; omega)
            have t3' : (((S m).size : Int) == 0) = true := by simp [t3]
            clear t3
            go_wp2_with fail
            go_ret
            exact ⟨by first | rfl | (rw [hr]; rfl), (unhide HB _).2.2⟩
          have t3' : (((S m).size : Int) == 0) = false := by rw [beq_eq_false_iff_ne]; omega
          by_cases t4 : (16 : Int) < ((S m).size : Int)
          · have hr : rightN k k n2 L C Q1 Q2 Q3 E S = 11 := right_bade hlt2 (by simp [entryB, withinB]; omega)
            go_wp2_with fail
            go_ret
            exact ⟨by first | rfl | (rw [hr]; rfl), (unhide HB _).2.2⟩
          have t4' : decide ((16 : Int) < ((S m).size : Int)) = false := by simpa using t4
          have hgood : entryB (E m) (S m) k = true := by
            simp only [entryB, withinB, Bool.and_eq_true, decide_eq_true_eq]
            omega
          have HG := hide hgood
          clear hgood
          go_wp2_with fail
          go_roundw
          case rel =>
            refine ⟨m + 1, by omega, by go_num, fun j hj => ?_, unhide HB _⟩
            by_cases hjm : j = m
            · subst hjm; exact unhide HG
            · exact unhide HEn j (by omega)
          case measure => simp [intOf]; omega
        · have hmn : m = n2 := by omega
          subst hmn
          have hr : rightN k k m L C Q1 Q2 Q3 E S = 0 := right_good (unhide HW1) (unhide HW2) (fun j hj => (unhide HA j hj).1) (fun j hj => (unhide HA j hj).2) (unhide HEn)
          go_wp2_with fail
          go_ret
          exact ⟨by first | rfl | (rw [hr]; rfl), hR2.2.2⟩

set_option maxHeartbeats 2000000 in
theorem refright_any (a0 a1 a2 : Option Addr) (n0 n1 n2 c0 c1 c2 : Nat) (L C Q1 Q2 Q3 E : Nat → Int) (S : Nat → ByteArray) (D : Nat → Bool) (w : World)
    (pl : PolLabs w a0 n0 L C) (pq : PolQuos w a1 n1 Q1 Q2 Q3) (pe : PolEnts w a2 n2 E S D) :
    Calls Try.prog 38 #[.agg #[.slice a0 n0 c0, .slice a1 n1 c1, .slice a2 n2 c2]] w fun e w' => e = .returned (.int .i64 (rightN n0 n1 n2 L C Q1 Q2 Q3 E S)) ∧ Below w.heap.size w w' := by
  by_cases ha : (n0 : Int) < 1
  · have hr : rightN n0 n1 n2 L C Q1 Q2 Q3 E S = 11 := right_bad (.inl (by simp [labelsB, withinB]; omega))
    go_enter Try.func38, Try.ntmps38
    go_wp2_with fail
    go_ret
    exact ⟨by first | rfl | (rw [hr]; rfl), by go_grown⟩
  · have ha' : decide ((n0 : Int) < 1) = false := by simpa using ha
    by_cases hb : 32 < (n0 : Int)
    · have hr : rightN n0 n1 n2 L C Q1 Q2 Q3 E S = 11 := right_bad (.inl (by simp [labelsB, withinB]; omega))
      go_enter Try.func38, Try.ntmps38
      go_wp2_with fail
      go_ret
      exact ⟨by first | rfl | (rw [hr]; rfl), by go_grown⟩
    · have hb' : decide (32 < (n0 : Int)) = false := by simpa using hb
      by_cases hc : n1 = n0
      · have hc' : ((n1 : Int) != (n0 : Int)) = false := by simp [hc]
        have HC := hide hc
        clear hc
        by_cases hd : (n2 : Int) < 1
        · have hr : rightN n0 n1 n2 L C Q1 Q2 Q3 E S = 11 := right_bad (.inr (.inr (by simp [entriesB, withinB]; omega)))
          go_enter Try.func38, Try.ntmps38
          go_wp2_with fail
          go_ret
          exact ⟨by first | rfl | (rw [hr]; rfl), by go_grown⟩
        · have hd' : decide ((n2 : Int) < 1) = false := by simpa using hd
          by_cases he : 8 < (n2 : Int)
          · have hr : rightN n0 n1 n2 L C Q1 Q2 Q3 E S = 11 := right_bad (.inr (.inr (by simp [entriesB, withinB]; omega)))
            go_enter Try.func38, Try.ntmps38
            go_wp2_with fail
            go_ret
            exact ⟨by first | rfl | (rw [hr]; rfl), by go_grown⟩
          · have he' : decide (8 < (n2 : Int)) = false := by simpa using he
            have hc := unhide HC
            subst hc
            exact right_in a0 a1 a2 n1 n2 c0 c1 c2 L C Q1 Q2 Q3 E S D w pl pq pe ha hb hd he
      · have hc' : ((n1 : Int) != (n0 : Int)) = true := by simp; omega
        have hr : rightN n0 n1 n2 L C Q1 Q2 Q3 E S = 11 := right_bad (.inr (.inl hc))
        go_enter Try.func38, Try.ntmps38
        go_wp2_with fail
        go_ret
        exact ⟨by first | rfl | (rw [hr]; rfl), by go_grown⟩

end Go.Proofs.Ythgacmlbmcehmaa
