/- Whether a policy may be. -/
import Derived.Test.YtbahnkomdndmkabPolicy
import Derived.Deep.QuietTactic
import Derived.BigQuiet
namespace Go.Proofs.Ytbahnkomdndmkab
set_option linter.unusedVariables false
set_option linter.unusedSimpArgs false
open Go.ChangeShapes Go.WideShapes Go.ChangeAt Go.RowKit

theorem PB.bel {w W : World} {s0 s1 s2 : Value} (h : PB w s0 s1 s2 W) : Below w.heap.size w W := h.2.2

theorem within_id (n lo hi : Int) (w : World) : Calls Try.prog 24 #[.int .i64 n, .int .i64 lo, .int .i64 hi] w fun e w' => e = .returned (.bool (withinB n lo hi)) ∧ w = w' :=
  (within_any n lo hi w).mono fun e w' h => ⟨h.1, h.2.symm⟩

def At1 (n : Nat) (L C : Nat → Int) (l c : Int) (r : Int) : Prop :=
  (r = -1 ∧ ∀ i, i < n → ¬ (L i = l ∧ C i = c)) ∨ (∃ k : Nat, k < n ∧ r = k ∧ (L k = l ∧ C k = c) ∧ ∀ i, i < k → ¬ (L i = l ∧ C i = c))

def B2 (w : World) (l c : Int) (w' : World) : Prop :=
  (w'.cell? ⟨w.heap.size, 0, none⟩ = some (.int .i64 l) ∧ w'.cell? ⟨w.heap.size, 1, none⟩ = some (.int .u32 c)) ∧ w.heap.size < w'.heap.size ∧ Below w.heap.size w w'
theorem B2.start (w : World) (l c : Int) : B2 w l c (w.alloc (.cells #[.int .i64 l, .int .u32 c] 24)) := by
  refine ⟨⟨?_, ?_⟩, ?_, ?_⟩
  all_goals first | (simp [go_sem]; done) | go_grown
theorem B2.call {w W w1 : World} {l c : Int} (h : B2 w l c W) (hb : Below W.heap.size W w1) : B2 w l c w1 := by
  obtain ⟨⟨h0, h1⟩, hs, bl⟩ := h
  have hz := hb.size
  exact ⟨⟨cell_keep hb hs h0, cell_keep hb hs h1⟩, by omega, bl.trans (hb.mono (by omega))⟩

theorem B2.bel {w W : World} {l c : Int} (h : B2 w l c W) : Below w.heap.size w W := h.2.2

set_option maxHeartbeats 1000000 in
theorem indexl_any (a : Option Addr) (n cap : Nat) (L C : Nat → Int) (l c : Int) (w : World) (hp : PolLabs w a n L C) :
    Calls Try.prog 35 #[.slice a n cap, .agg #[.int .i64 l, .int .u32 c]] w fun e w' => (∃ r : Int, e = .returned (.int .i64 r) ∧ At1 n L C l c r) ∧ Below w.heap.size w w' := by
  have hst := B2.start w l c
  have hn : (n : Int) ≤ 9223372036854775807 := by have := hp.1; unfold maxLen at this; omega
  go_enter Try.func35, Try.ntmps35
  go_wp2_with fail
  go_loopw [8] (fun i wr => ∃ k : Nat, k ≤ n ∧ i = .int .i64 k ∧ (∀ j, j < k → ¬ (L j = l ∧ C j = c)) ∧ B2 w l c wr) (fun i _ => n - (intOf i).toNat)
  case atStart => exact ⟨0, Nat.zero_le _, rfl, fun j hj => by omega, hst⟩
  case round =>
    obtain ⟨k, hk, rfl, hall, hS⟩ := hrel
    have HA := hide hall
    clear hall
    have hF := hS.1
    by_cases hlt : k < n
    · rcases hp.2.2 with h0 | ⟨b, off, rfl, hb, hrow⟩
      · omega
      have hc := (hrow.below hS.2.2 hb) k hlt
      have g1 : (0 : Int) ≤ (k : Int) := by omega
      have g2 : (k : Int) < (n : Int) := by omega
      by_cases heq : L k = l ∧ C k = c
      · obtain ⟨rfl, rfl⟩ := heq
        go_wp2_with fail
        go_quiet (fail)
        go_wp2
        go_ret
        exact ⟨⟨(k : Int), rfl, .inr ⟨k, hlt, rfl, ⟨rfl, rfl⟩, unhide HA⟩⟩, (hS.call (Joins.below_draws _ _ nq)).2.2⟩
      · have hstep : ∀ j, j < k + 1 → ¬ (L j = l ∧ C j = c) := by
          intro j hj
          by_cases hjk : j = k
          · subst hjk; exact heq
          · exact unhide HA j (by omega)
        have HS := hide hstep
        clear hstep
        by_cases hl : l = L k
        · have hc' : (c == C k) = false := by
            rw [beq_eq_false_iff_ne]
            exact fun h => heq ⟨hl.symm, h.symm⟩
          subst hl
          clear heq
          go_wp2_with fail
          go_quiet (fail)
          go_wp2
          go_roundw
          case rel => exact ⟨k + 1, by omega, by go_num, unhide HS, hS.call (Joins.below_draws _ _ nq)⟩
          case measure => simp [intOf]; omega
        · have hl' : (l == L k) = false := by rw [beq_eq_false_iff_ne]; exact hl
          clear heq hl
          go_wp2_with fail
          go_quiet (fail)
          go_wp2
          go_roundw
          case rel => exact ⟨k + 1, by omega, by go_num, unhide HS, hS.call (Joins.below_draws _ _ nq)⟩
          case measure => simp [intOf]; omega
    · have hkn : k = n := by omega
      subst hkn
      go_wp2
      go_ret
      exact ⟨⟨-1, rfl, .inl ⟨rfl, unhide HA⟩⟩, hS.2.2⟩

/-- all of the first n -/
def allB (n : Nat) (P : Nat → Bool) : Bool := (List.range n).all P
theorem allB_true {n : Nat} {P : Nat → Bool} (h : ∀ j, j < n → P j = true) : allB n P = true := by
  rw [allB, List.all_eq_true]
  intro x hx
  exact h x (List.mem_range.1 hx)
theorem allB_false {n k : Nat} {P : Nat → Bool} (hk : k < n) (h : P k = false) : allB n P = false := by
  cases e : allB n P
  · rfl
  · rw [allB, List.all_eq_true] at e
    have := e k (List.mem_range.2 hk)
    rw [h] at this
    cases this
theorem allB_get {n k : Nat} {P : Nat → Bool} (h : allB n P = true) (hk : k < n) : P k = true := by
  rw [allB, List.all_eq_true] at h
  exact h k (List.mem_range.2 hk)

def dupB (n : Nat) (L C : Nat → Int) (l c : Int) : Bool := !(allB n fun i => !(L i == l && C i == c))
theorem dup_true {n : Nat} {L C : Nat → Int} {l c : Int} {k : Nat} (hk : k < n) (h : L k = l ∧ C k = c) : dupB n L C l c = true := by
  rw [dupB, allB_false hk (by simp [h.1, h.2])]
  rfl
theorem dup_false {n : Nat} {L C : Nat → Int} {l c : Int} (h : ∀ i, i < n → ¬ (L i = l ∧ C i = c)) : dupB n L C l c = false := by
  rw [dupB, allB_true (fun j hj => by
    have := h j hj
    by_cases e1 : L j = l
    · have e2 : ¬ C j = c := fun e2 => this ⟨e1, e2⟩
      simp [e2]
    · simp [e1])]
  rfl
theorem dup_of {n : Nat} {L C : Nat → Int} {l c : Int} (h : dupB n L C l c = false) : ∀ i, i < n → ¬ (L i = l ∧ C i = c) := by
  intro i hi he
  rw [dup_true hi he] at h
  cases h
theorem at1_dup {n : Nat} {L C : Nat → Int} {l c r : Int} (h : At1 n L C l c r) : decide (0 ≤ r) = dupB n L C l c := by
  rcases h with ⟨rfl, h⟩ | ⟨k, hk, rfl, he, _⟩
  · rw [dup_false h]; rfl
  · rw [dup_true hk he]
    simp

set_option maxHeartbeats 400000 in
theorem containsl_any (a : Option Addr) (n cap : Nat) (L C : Nat → Int) (l c : Int) (w : World) (hp : PolLabs w a n L C) :
    Calls Try.prog 36 #[.slice a n cap, .agg #[.int .i64 l, .int .u32 c]] w fun e w' => e = .returned (.bool (dupB n L C l c)) ∧ Below w.heap.size w w' := by
  have hB : Below w.heap.size w (w.alloc (.cells #[.int .i64 l, .int .u32 c] 24)) := by go_grown
  go_enter Try.func36, Try.ntmps36
  go_wp2_with fail
  refine (indexl_any a n cap L C l c _ (hp.call hB)).mono ?_
  rintro e w1 ⟨⟨r, rfl, hr⟩, hb1⟩
  have hd := at1_dup hr
  have HD := hide hd
  clear hd hr
  go_wp2
  go_ret
  exact ⟨by rw [← unhide HD]; rfl, hB.trans (hb1.mono hB.size)⟩

def Box3 (w : World) (v0 v1 v2 : Value) (w' : World) : Prop :=
  (w'.cell? ⟨w.heap.size, 0, none⟩ = some v0 ∧ w'.cell? ⟨w.heap.size, 1, none⟩ = some v1 ∧ w'.cell? ⟨w.heap.size, 2, none⟩ = some v2) ∧ w.heap.size < w'.heap.size ∧ Below w.heap.size w w'

def quotaB (a b c : Int) : Bool := withinB a 0 4096 && withinB b 0 4096 && withinB c 0 4096
set_option maxHeartbeats 400000 in
theorem quota_any (a b c : Int) (w : World) :
    Calls Try.prog 37 #[.agg #[.int .i64 a, .int .i64 b, .int .i64 c]] w fun e w' => e = .returned (.bool (quotaB a b c)) ∧ Below w.heap.size w w' := by
  cases h1 : withinB a 0 4096
  · go_enter Try.func37, Try.ntmps37
    go_wp2_with (go_at_call 24; refine (within_id _ _ _ _).mono ?_; rintro e w' ⟨rfl, rfl⟩)
    go_ret
    exact ⟨by simp [quotaB, h1], by go_grown⟩
  · cases h2 : withinB b 0 4096
    · go_enter Try.func37, Try.ntmps37
      go_wp2_with (go_at_call 24; refine (within_id _ _ _ _).mono ?_; rintro e w' ⟨rfl, rfl⟩)
      go_ret
      exact ⟨by simp [quotaB, h1, h2], by go_grown⟩
    · go_enter Try.func37, Try.ntmps37
      go_wp2_with (go_at_call 24; refine (within_id _ _ _ _).mono ?_; rintro e w' ⟨rfl, rfl⟩)
      go_ret
      exact ⟨by simp [quotaB, h1, h2], by go_grown⟩

def quotasB (n : Nat) (m : Int) (A B C : Nat → Int) : Bool := ((n : Int) == m) && allB n fun i => quotaB (A i) (B i) (C i)
set_option maxHeartbeats 1000000 in
theorem quotas_any (a : Option Addr) (n cap : Nat) (A B C : Nat → Int) (m : Int) (w : World) (hp : PolQuos w a n A B C) :
    Calls Try.prog 33 #[.slice a n cap, .int .i64 m] w fun e w' => e = .returned (.bool (quotasB n m A B C)) ∧ Below w.heap.size w w' := by
  have hn : (n : Int) ≤ 9223372036854775807 := by have := hp.1; unfold maxLen at this; omega
  by_cases hm : (n : Int) = m
  · subst hm
    have hne : ((n : Int) != (n : Int)) = false := by simp
    have hr : quotasB n (n : Int) A B C = allB n (fun i => quotaB (A i) (B i) (C i)) := by simp [quotasB]
    have HR := hide hr
    clear hr
    go_enter Try.func33, Try.ntmps33
    go_wp2_with fail
    go_loopw [13] (fun i wr => ∃ k : Nat, k ≤ n ∧ i = .int .i64 k ∧ (∀ j, j < k → quotaB (A j) (B j) (C j) = true) ∧ Below w.heap.size w wr) (fun i _ => n - (intOf i).toNat)
    case atStart => exact ⟨0, Nat.zero_le _, rfl, fun j hj => by omega, Below.refl _ _⟩
    case round =>
      obtain ⟨k, hk, rfl, hall, bel⟩ := hrel
      have HA := hide hall
      clear hall
      by_cases hlt : k < n
      · rcases hp.2.2 with h0 | ⟨b, off, rfl, hb, hrow⟩
        · omega
        have hc := (hrow.below bel hb) k hlt
        cases hq : quotaB (A k) (B k) (C k)
        · go_wp2_with (go_at_call 37; refine (quota_any _ _ _ _).mono ?_; rintro e w' ⟨rfl, hb1⟩)
          go_ret
          exact ⟨by rw [unhide HR, allB_false hlt hq]; rfl, (bel.alloc bel.size _).trans (hb1.mono (by have := bel.size; simp; omega))⟩
        · go_wp2_with (go_at_call 37; refine (quota_any _ _ _ _).mono ?_; rintro e w' ⟨rfl, hb1⟩)
          go_roundw
          case rel =>
            refine ⟨k + 1, by omega, by go_num, fun j hj => ?_, (bel.alloc bel.size _).trans (hb1.mono (by have := bel.size; simp; omega))⟩
            by_cases hjk : j = k
            · subst hjk; exact hq
            · exact unhide HA j (by omega)
          case measure => simp [intOf]; omega
      · have hkn : k = n := by omega
        subst hkn
        go_wp2
        go_ret
        exact ⟨by rw [unhide HR, allB_true (unhide HA)]; rfl, bel⟩
  · have hne : ((n : Int) != m) = true := by simpa using hm
    have hr : quotasB n m A B C = false := by simp [quotasB, hm]
    go_enter Try.func33, Try.ntmps33
    go_wp2_with fail
    go_ret
    exact ⟨by rw [hr]; rfl, Below.refl _ _⟩

def entryB (l : Int) (s : ByteArray) (m : Int) : Bool := withinB l 0 (m - 1) && withinB s.size 1 16
def entriesB (n : Nat) (E : Nat → Int) (S : Nat → ByteArray) (m : Int) : Bool := withinB n 1 8 && allB n fun i => entryB (E i) (S i) m
set_option maxHeartbeats 1000000 in
theorem entries_any (a : Option Addr) (n cap : Nat) (E : Nat → Int) (S : Nat → ByteArray) (D : Nat → Bool) (m : Int) (w : World) (hp : PolEnts w a n E S D) (m0 : 0 ≤ m) (m1 : m ≤ 9223372036854775807) :
    Calls Try.prog 34 #[.slice a n cap, .int .i64 m] w fun e w' => e = .returned (.bool (entriesB n E S m)) ∧ Below w.heap.size w w' := by
  have hn : (n : Int) ≤ 9223372036854775807 := by have := hp.1; unfold maxLen at this; omega
  cases hw : withinB n 1 8
  · have hr : entriesB n E S m = false := by simp [entriesB, hw]
    go_enter Try.func34, Try.ntmps34
    go_wp2_with (go_at_call 24; refine (within_id _ _ _ _).mono ?_; rintro e w' ⟨rfl, rfl⟩)
    go_ret
    exact ⟨by rw [hr]; rfl, Below.refl _ _⟩
  · have hr : entriesB n E S m = allB n (fun i => entryB (E i) (S i) m) := by simp [entriesB, hw]
    have HR := hide hr
    clear hr
    go_enter Try.func34, Try.ntmps34
    go_wp2_with (go_at_call 24; refine (within_id _ _ _ _).mono ?_; rintro e w' ⟨rfl, rfl⟩)
    go_loopw [13] (fun i wr => ∃ k : Nat, k ≤ n ∧ i = .int .i64 k ∧ (∀ j, j < k → entryB (E j) (S j) m = true) ∧ Below w.heap.size w wr) (fun i _ => n - (intOf i).toNat)
    case atStart => exact ⟨0, Nat.zero_le _, rfl, fun j hj => by omega, Below.refl _ _⟩
    case round =>
      obtain ⟨k, hk, rfl, hall, bel⟩ := hrel
      have HA := hide hall
      clear hall
      by_cases hlt : k < n
      · rcases hp.2.2 with h0 | ⟨b, off, rfl, hb, hrow⟩
        · omega
        have hc := (hrow.below bel hb) k hlt
        have hbel2 : ∀ o, Below w.heap.size w (wr.alloc o) := fun o => bel.alloc bel.size o
        have HB := hide hbel2
        clear hbel2
        cases hq1 : withinB (E k) 0 (m - 1)
        · have hq : entryB (E k) (S k) m = false := by simp [entryB, hq1]
          have HQ := hide hq
          clear hq
          go_wp2_with (go_at_call 24; refine (within_id _ _ _ _).mono ?_; rintro e w' ⟨rfl, rfl⟩)
          go_ret
          exact ⟨by rw [unhide HR, allB_false hlt (unhide HQ)]; rfl, unhide HB _⟩
        · cases hq2 : withinB ((S k).size : Int) 1 16
          · have hq : entryB (E k) (S k) m = false := by simp [entryB, hq1, hq2]
            have HQ := hide hq
            clear hq
            go_wp2_with (go_at_call 24; refine (within_id _ _ _ _).mono ?_; rintro e w' ⟨rfl, rfl⟩)
            go_ret
            exact ⟨by rw [unhide HR, allB_false hlt (unhide HQ)]; rfl, unhide HB _⟩
          · have hq : entryB (E k) (S k) m = true := by simp [entryB, hq1, hq2]
            have HQ := hide hq
            clear hq
            go_wp2_with (go_at_call 24; refine (within_id _ _ _ _).mono ?_; rintro e w' ⟨rfl, rfl⟩)
            go_roundw
            case rel =>
              refine ⟨k + 1, by omega, by go_num, fun j hj => ?_, unhide HB _⟩
              by_cases hjk : j = k
              · subst hjk; exact unhide HQ
              · exact unhide HA j (by omega)
            case measure => simp [intOf]; omega
      · have hkn : k = n := by omega
        subst hkn
        go_wp2
        go_ret
        exact ⟨by rw [unhide HR, allB_true (unhide HA)]; rfl, bel⟩

theorem PolLabs.front {w : World} {a : Option Addr} {n k : Nat} {L C : Nat → Int} (h : PolLabs w a n L C) (hk : k ≤ n) : PolLabs w a k L C := by
  obtain ⟨h1, h2, h3⟩ := h
  refine ⟨by omega, fun i hi => h2 i (by omega), ?_⟩
  rcases h3 with h3 | ⟨b, off, rfl, hlt, hr⟩
  · exact .inl (by omega)
  · exact .inr ⟨b, off, rfl, hlt, fun i hi => hr i (by omega)⟩

def labelB (L C : Nat → Int) (i : Nat) : Bool := (checkN (L i) == 0) && !dupB i L C (L i) (C i)
def labelsB (n : Nat) (L C : Nat → Int) : Bool := withinB n 1 32 && allB n (labelB L C)
set_option maxHeartbeats 1000000 in
theorem labels_any (a : Option Addr) (n cap : Nat) (L C : Nat → Int) (w : World) (hp : PolLabs w a n L C) (hcap : n ≤ cap) (hmax : cap ≤ maxLen) :
    Calls Try.prog 32 #[.slice a n cap] w fun e w' => e = .returned (.bool (labelsB n L C)) ∧ Below w.heap.size w w' := by
  unfold maxLen at hmax
  have hn : (n : Int) ≤ 9223372036854775807 := by omega
  cases hw : withinB n 1 32
  · have hr : labelsB n L C = false := by simp [labelsB, hw]
    go_enter Try.func32, Try.ntmps32
    go_wp2_with (go_at_call 24; refine (within_id _ _ _ _).mono ?_; rintro e w' ⟨rfl, rfl⟩)
    go_ret
    exact ⟨by rw [hr]; rfl, Below.refl _ _⟩
  · have hr : labelsB n L C = allB n (labelB L C) := by simp [labelsB, hw]
    have HR := hide hr
    clear hr
    go_enter Try.func32, Try.ntmps32
    go_wp2_with (go_at_call 24; refine (within_id _ _ _ _).mono ?_; rintro e w' ⟨rfl, rfl⟩)
    go_loopw [11] (fun i wr => ∃ k : Nat, k ≤ n ∧ i = .int .i64 k ∧ (∀ j, j < k → labelB L C j = true) ∧ Below w.heap.size w wr) (fun i _ => n - (intOf i).toNat)
    case atStart => exact ⟨0, Nat.zero_le _, rfl, fun j hj => by omega, Below.refl _ _⟩
    case round =>
      obtain ⟨k, hk, rfl, hall, bel⟩ := hrel
      have HA := hide hall
      clear hall
      by_cases hlt : k < n
      · rcases hp.2.2 with h0 | ⟨b, off, rfl, hb, hrow⟩
        · omega
        have hc := (hrow.below bel hb) k hlt
        have hpk : PolLabs wr (some ⟨b, off, none⟩) k L C := PolLabs.front (hp.call bel) hk
        have hst := B2.start wr (L k) (C k)
        have g0 : (0 : Int) ≤ (k : Int) := by omega
        have g1 : (k : Int) ≤ (cap : Int) := by omega
        have hfin : ∀ w1, Below wr.heap.size wr w1 → Below w.heap.size w w1 := fun w1 h => bel.trans (h.mono bel.size)
        have HFin := hide hfin
        clear hfin
        by_cases hck : checkN (L k) = 0
        · cases hd : dupB k L C (L k) (C k)
          · have hq : labelB L C k = true := by simp [labelB, hck, hd]
            have HQ := hide hq
            clear hq
            go_wp2_with fail
            generalize wr.alloc (Obj.cells #[Value.int IntKind.i64 (L k), Value.int IntKind.u32 (C k)] 24) = W0 at *
            have hst' := hst
            unfold B2 at hst'
            go_region_held3 (fun w' => (w'.cell? ⟨wr.heap.size, 0, none⟩ = some (.int .i64 (L k)) ∧ w'.cell? ⟨wr.heap.size, 1, none⟩ = some (.int .u32 (C k))) ∧ wr.heap.size < w'.heap.size ∧ Below wr.heap.size wr w')
              (first | exact B2.call (by assumption) (Below.refl _ _).drew | exact B2.call (by assumption) (by assumption))
              (first
                | (go_at_call 10; refine (check_any _ _ _).mono ?_; rintro e w' ⟨rfl, hb⟩; rw [hck])
                | (go_at_call 36; refine (containsl_any _ _ _ L C _ _ _ ?_).mono ?_; (exact hpk.call (B2.bel (l := L k) (c := C k) (by assumption))); rintro e w' ⟨rfl, hb⟩; rw [hd]))
            all_goals go_wp2
            all_goals go_roundw
            case rel =>
              have hS : B2 wr (L k) (C k) w' := by assumption
              refine ⟨k + 1, by omega, by go_num, fun j hj => ?_, unhide HFin _ hS.2.2⟩
              by_cases hjk : j = k
              · subst hjk; exact unhide HQ
              · exact unhide HA j (by omega)
            case measure => simp [intOf]; omega
          · have hq : labelB L C k = false := by simp [labelB, hd]
            have HQ := hide hq
            clear hq
            go_wp2_with fail
            generalize wr.alloc (Obj.cells #[Value.int IntKind.i64 (L k), Value.int IntKind.u32 (C k)] 24) = W0 at *
            have hst' := hst
            unfold B2 at hst'
            go_region_held3 (fun w' => (w'.cell? ⟨wr.heap.size, 0, none⟩ = some (.int .i64 (L k)) ∧ w'.cell? ⟨wr.heap.size, 1, none⟩ = some (.int .u32 (C k))) ∧ wr.heap.size < w'.heap.size ∧ Below wr.heap.size wr w')
              (first | exact B2.call (by assumption) (Below.refl _ _).drew | exact B2.call (by assumption) (by assumption))
              (first
                | (go_at_call 10; refine (check_any _ _ _).mono ?_; rintro e w' ⟨rfl, hb⟩; rw [hck])
                | (go_at_call 36; refine (containsl_any _ _ _ L C _ _ _ ?_).mono ?_; (exact hpk.call (B2.bel (l := L k) (c := C k) (by assumption))); rintro e w' ⟨rfl, hb⟩; rw [hd]))
            all_goals go_wp2
            all_goals go_ret
            have hS : B2 wr (L k) (C k) w' := by assumption
            exact ⟨by rw [unhide HR, allB_false hlt (unhide HQ)]; rfl, unhide HFin _ hS.2.2⟩
        · have hq : labelB L C k = false := by simp [labelB, hck]
          have HQ := hide hq
          clear hq
          have hck2 : checkN (L k) = 10 := by
            unfold checkN at hck ⊢
            split
            · rename_i h; exact absurd (if_pos h) hck
            · rfl
          clear hck
          go_wp2_with fail
          generalize wr.alloc (Obj.cells #[Value.int IntKind.i64 (L k), Value.int IntKind.u32 (C k)] 24) = W0 at *
          refine wp_region_held_drew (S := fun w' => (w'.cell? ⟨wr.heap.size, 0, none⟩ = some (.int .i64 (L k)) ∧ w'.cell? ⟨wr.heap.size, 1, none⟩ = some (.int .u32 (C k))) ∧ wr.heap.size < w'.heap.size ∧ Below wr.heap.size wr w') (by kernel_rfl) ?_ (fun hHeld => ?_)
          · exact B2.call hst (Below.refl _ _).drew
          refine wpAnyH_take (i := 0) (v := ?_) rfl (by kernel_rfl) (by kernel_rfl) (by kernel_rfl) (fun _ _ _ h => h) (Or.inl ⟨by rfl, ?_⟩) (by assumption) ?_
          rotate_left 1
          · (intro w hSw; (try dsimp only at hSw); go_simp) <;> (with_reducible rfl)
          try simp only [Act.put, List.getElem_toArray, List.getElem_cons_zero, List.getElem_cons_succ, List.setIfInBounds_toArray, List.set_cons_zero, List.set_cons_succ]
          refine wpAnyH_ready (rs := [1]) (by kernel_rfl) (by simp) ?_
          refine AllReadyH.cons rfl (fun K hK => ?_) AllReadyH.nil
          go_simp; (go_at_call 10; refine (check_any _ _ _).mono ?_; rintro e w' ⟨rfl, hb⟩; rw [hck2]); go_wp2_with fail
          refine hK.out _ _ ?_ (fun hHeld => ?_)
          · exact B2.call (by assumption) (by assumption)
          clear hK K
          try simp only [Act.put, List.getElem_toArray, List.getElem_cons_zero, List.getElem_cons_succ, List.setIfInBounds_toArray, List.set_cons_zero, List.set_cons_succ]
          refine wpAnyH_take (i := 2) (v := ?_) rfl (by kernel_rfl) (by kernel_rfl) (by kernel_rfl) (fun _ _ _ h => h) (Or.inl ⟨by rfl, ?_⟩) (by assumption) ?_
          rotate_left 1
          · (intro w hSw; (try dsimp only at hSw); go_simp) <;> (with_reducible rfl)
          try simp only [Act.put, List.getElem_toArray, List.getElem_cons_zero, List.getElem_cons_succ, List.setIfInBounds_toArray, List.set_cons_zero, List.set_cons_succ]
          refine wpAnyH_take (i := 3) (v := ?_) rfl (by kernel_rfl) (by kernel_rfl) (by kernel_rfl) (fun _ _ _ h => h) (Or.inl ⟨by rfl, ?_⟩) (by assumption) ?_
          rotate_left 1
          · (intro w hSw; (try dsimp only at hSw); go_simp) <;> (with_reducible rfl)
          try simp only [Act.put, List.getElem_toArray, List.getElem_cons_zero, List.getElem_cons_succ, List.setIfInBounds_toArray, List.set_cons_zero, List.set_cons_succ]
          refine wpAnyH_take (i := 4) (v := undef) rfl (by kernel_rfl) (by kernel_rfl) (by kernel_rfl) (fun _ _ _ h => h) (Or.inr ⟨by rfl, rfl⟩) (by assumption) ?_
          try simp only [Act.put, List.getElem_toArray, List.getElem_cons_zero, List.getElem_cons_succ, List.setIfInBounds_toArray, List.set_cons_zero, List.set_cons_succ]
          refine wpAnyH_take (i := 5) (v := undef) rfl (by kernel_rfl) (by kernel_rfl) (by kernel_rfl) (fun _ _ _ h => h) (Or.inr ⟨by rfl, rfl⟩) (by assumption) ?_
          try simp only [Act.put, List.getElem_toArray, List.getElem_cons_zero, List.getElem_cons_succ, List.setIfInBounds_toArray, List.set_cons_zero, List.set_cons_succ]
          refine wpAnyH_take (i := 6) (v := undef) rfl (by kernel_rfl) (by kernel_rfl) (by kernel_rfl) (fun _ _ _ h => h) (Or.inr ⟨by rfl, rfl⟩) (by assumption) ?_
          try simp only [Act.put, List.getElem_toArray, List.getElem_cons_zero, List.getElem_cons_succ, List.setIfInBounds_toArray, List.set_cons_zero, List.set_cons_succ]
          refine wpAnyH_take (i := 7) (v := undef) rfl (by kernel_rfl) (by kernel_rfl) (by kernel_rfl) (fun _ _ _ h => h) (Or.inr ⟨by rfl, rfl⟩) (by assumption) ?_
          try simp only [Act.put, List.getElem_toArray, List.getElem_cons_zero, List.getElem_cons_succ, List.setIfInBounds_toArray, List.set_cons_zero, List.set_cons_succ]
          refine wpAnyH_ready (rs := [8]) (by kernel_rfl) (by simp) ?_
          refine AllReadyH.cons rfl (fun K hK => ?_) AllReadyH.nil
          go_simp
          refine hK.out _ _ ?_ (fun hHeld => ?_)
          · assumption
          clear hK K
          try simp only [Act.put, List.getElem_toArray, List.getElem_cons_zero, List.getElem_cons_succ, List.setIfInBounds_toArray, List.set_cons_zero, List.set_cons_succ]
          refine wpAnyH_take (i := 9) (v := ?_) rfl (by kernel_rfl) (by kernel_rfl) (by kernel_rfl) (fun _ _ _ h => h) (Or.inl ⟨by rfl, ?_⟩) (by assumption) ?_
          rotate_left 1
          · (intro w hSw; (try dsimp only at hSw); go_simp) <;> (with_reducible rfl)
          try simp only [Act.put, List.getElem_toArray, List.getElem_cons_zero, List.getElem_cons_succ, List.setIfInBounds_toArray, List.set_cons_zero, List.set_cons_succ]
          refine wpAnyH_done (by kernel_rfl) ?_ _
          go_wp2_with fail
          go_ret
          have hS : B2 wr (L k) (C k) w' := by assumption
          exact ⟨by rw [unhide HR, allB_false hlt (unhide HQ)]; rfl, unhide HFin _ hS.2.2⟩
      · have hkn : k = n := by omega
        subst hkn
        go_wp2
        go_ret
        exact ⟨by rw [unhide HR, allB_true (unhide HA)]; rfl, bel⟩

def rightN (n0 n1 n2 : Nat) (L C Q1 Q2 Q3 E : Nat → Int) (S : Nat → ByteArray) : Int :=
  if labelsB n0 L C && quotasB n1 n0 Q1 Q2 Q3 && entriesB n2 E S n0 then 0 else 11
set_option maxHeartbeats 1000000 in
theorem right_any (a0 a1 a2 : Option Addr) (n0 n1 n2 c0 c1 c2 : Nat) (L C Q1 Q2 Q3 E : Nat → Int) (S : Nat → ByteArray) (D : Nat → Bool) (w : World)
    (pl : PolLabs w a0 n0 L C) (pq : PolQuos w a1 n1 Q1 Q2 Q3) (pe : PolEnts w a2 n2 E S D) (hc0 : n0 ≤ c0) (hm0 : c0 ≤ maxLen) :
    Calls Try.prog 22 #[.agg #[.slice a0 n0 c0, .slice a1 n1 c1, .slice a2 n2 c2]] w fun e w' => e = .returned (.int .i64 (rightN n0 n1 n2 L C Q1 Q2 Q3 E S)) ∧ Below w.heap.size w w' := by
  have hst := PB.start w (.slice a0 n0 c0) (.slice a1 n1 c1) (.slice a2 n2 c2)
  have hn : (n0 : Int) ≤ 9223372036854775807 := by have := pl.1; unfold maxLen at this; omega
  have hn' : (0 : Int) ≤ (n0 : Int) := by omega
  cases e0 : labelsB n0 L C
  · have hr : rightN n0 n1 n2 L C Q1 Q2 Q3 E S = 11 := by simp [rightN, e0]
    go_enter Try.func22, Try.ntmps22
    go_wp2_with (first
      | (go_at_call 32; refine (labels_any _ _ _ L C _ ?_ hc0 hm0).mono ?_; (exact pl.call (PB.bel (by assumption))); rintro e w' ⟨rfl, hb⟩; have hS := PB.call (by assumption) hb; have hF := hS.1; clear hb)
      | (go_at_call 33; refine (quotas_any _ _ _ Q1 Q2 Q3 _ _ ?_).mono ?_; (exact pq.call (PB.bel (by assumption))); rintro e w' ⟨rfl, hb⟩; have hS := PB.call (by assumption) hb; have hF := hS.1; clear hb)
      | (go_at_call 34; refine (entries_any _ _ _ E S D _ _ ?_ hn' hn).mono ?_; (exact pe.call (PB.bel (by assumption))); rintro e w' ⟨rfl, hb⟩; have hS := PB.call (by assumption) hb; have hF := hS.1; clear hb))
    go_ret
    exact ⟨by rw [hr]; rfl, hS.2.2⟩
  · cases e1 : quotasB n1 n0 Q1 Q2 Q3
    · have hr : rightN n0 n1 n2 L C Q1 Q2 Q3 E S = 11 := by simp [rightN, e1]
      go_enter Try.func22, Try.ntmps22
      go_wp2_with (first
      | (go_at_call 32; refine (labels_any _ _ _ L C _ ?_ hc0 hm0).mono ?_; (exact pl.call (PB.bel (by assumption))); rintro e w' ⟨rfl, hb⟩; have hS := PB.call (by assumption) hb; have hF := hS.1; clear hb)
      | (go_at_call 33; refine (quotas_any _ _ _ Q1 Q2 Q3 _ _ ?_).mono ?_; (exact pq.call (PB.bel (by assumption))); rintro e w' ⟨rfl, hb⟩; have hS := PB.call (by assumption) hb; have hF := hS.1; clear hb)
      | (go_at_call 34; refine (entries_any _ _ _ E S D _ _ ?_ hn' hn).mono ?_; (exact pe.call (PB.bel (by assumption))); rintro e w' ⟨rfl, hb⟩; have hS := PB.call (by assumption) hb; have hF := hS.1; clear hb))
      go_ret
      exact ⟨by rw [hr]; rfl, hS.2.2⟩
    · cases e2 : entriesB n2 E S n0
      · have hr : rightN n0 n1 n2 L C Q1 Q2 Q3 E S = 11 := by simp [rightN, e2]
        go_enter Try.func22, Try.ntmps22
        go_wp2_with (first
      | (go_at_call 32; refine (labels_any _ _ _ L C _ ?_ hc0 hm0).mono ?_; (exact pl.call (PB.bel (by assumption))); rintro e w' ⟨rfl, hb⟩; have hS := PB.call (by assumption) hb; have hF := hS.1; clear hb)
      | (go_at_call 33; refine (quotas_any _ _ _ Q1 Q2 Q3 _ _ ?_).mono ?_; (exact pq.call (PB.bel (by assumption))); rintro e w' ⟨rfl, hb⟩; have hS := PB.call (by assumption) hb; have hF := hS.1; clear hb)
      | (go_at_call 34; refine (entries_any _ _ _ E S D _ _ ?_ hn' hn).mono ?_; (exact pe.call (PB.bel (by assumption))); rintro e w' ⟨rfl, hb⟩; have hS := PB.call (by assumption) hb; have hF := hS.1; clear hb))
        go_ret
        exact ⟨by rw [hr]; rfl, hS.2.2⟩
      · have hr : rightN n0 n1 n2 L C Q1 Q2 Q3 E S = 0 := by simp [rightN, e0, e1, e2]
        go_enter Try.func22, Try.ntmps22
        go_wp2_with (first
      | (go_at_call 32; refine (labels_any _ _ _ L C _ ?_ hc0 hm0).mono ?_; (exact pl.call (PB.bel (by assumption))); rintro e w' ⟨rfl, hb⟩; have hS := PB.call (by assumption) hb; have hF := hS.1; clear hb)
      | (go_at_call 33; refine (quotas_any _ _ _ Q1 Q2 Q3 _ _ ?_).mono ?_; (exact pq.call (PB.bel (by assumption))); rintro e w' ⟨rfl, hb⟩; have hS := PB.call (by assumption) hb; have hF := hS.1; clear hb)
      | (go_at_call 34; refine (entries_any _ _ _ E S D _ _ ?_ hn' hn).mono ?_; (exact pe.call (PB.bel (by assumption))); rintro e w' ⟨rfl, hb⟩; have hS := PB.call (by assumption) hb; have hF := hS.1; clear hb))
        go_ret
        exact ⟨by rw [hr]; rfl, hS.2.2⟩
end Go.Proofs.Ytbahnkomdndmkab
