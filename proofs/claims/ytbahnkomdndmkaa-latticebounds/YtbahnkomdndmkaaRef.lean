/- The document's own Below. -/
import Derived.Test.YtbahnkomdndmkaaMath
import Derived.Test.YtbahnkomdndmkaaAwake
import Derived.Deep.QuietTactic
import Derived.BigQuiet
import Derived.Lib.SmallJoins
namespace Go.Proofs.Ytbahnkomdndmkaa
open Go.ChangeShapes Go.WideShapes Go.ChangeAt Go.RowKit

theorem hide {p : Prop} (h : p) : Hid p := h
theorem unhide {p : Prop} (h : Hid p) : p := h

def bitN (n i : Nat) : Nat := n / 2 ^ i % 2
set_option maxHeartbeats 400000 in
theorem bit_any (n i : Nat) (w : World) (hn : n < 4294967296) (hi : i ≤ 32) :
    Calls Try.prog 31 #[.int .u32 n, .int .i64 i] w fun e w' => e = .returned (.int .u32 ((bitN n i : Nat) : Int)) ∧ w' = w := by
  go_enter Try.func31, Try.ntmps31
  go_wp2
  go_loop [0, 6] (fun m j => ∃ k : Nat, k ≤ i ∧ j = .int .i64 k ∧ m = .int .u32 ((n / 2 ^ k : Nat) : Int)) (fun _ j => i - (intOf j).toNat)
  case atStart => exact ⟨0, Nat.zero_le _, rfl, by simp⟩
  case round =>
    obtain ⟨k, hk, rfl, rfl⟩ := hrel
    have hle : n / 2 ^ k ≤ n := Nat.div_le_self _ _
    have hs : n / 2 ^ (k + 1) = n / 2 ^ k / 2 := by rw [Nat.pow_succ, Nat.div_div_eq_div_mul]
    generalize hm : n / 2 ^ k = m at *
    have HM := hide hm
    clear hm
    have hb : (m : Int) < 4294967296 := by omega
    by_cases hlt : k < i
    · go_wp2
      go_round
      case rel => exact ⟨k + 1, by omega, by go_num, by rw [hs]; rfl⟩
      case measure => simp [intOf]; omega
    · go_wp2
      go_ret
      have hki : k = i := by omega
      subst hki
      exact ⟨by rw [show bitN n k = m % 2 from by rw [bitN, unhide HM]]; rfl, rfl⟩

theorem bits_sub (a b : Nat) (ha : a < 4294967296) (h : ∀ j, j < 32 → bitN a j ≤ bitN b j) : ∀ i, a.testBit i = true → b.testBit i = true := by
  intro i hi
  by_cases h32 : i < 32
  · have := h i h32
    unfold bitN at this
    rw [Nat.testBit_eq_decide_div_mod_eq, decide_eq_true_eq] at hi ⊢
    omega
  · exfalso
    have : a < 2 ^ i := Nat.lt_of_lt_of_le (by simpa using ha) (Nat.pow_le_pow_right (by decide) (Nat.le_of_not_lt h32) : 2 ^ 32 ≤ 2 ^ i)
    rw [Nat.testBit_lt_two_pow this] at hi
    cases hi
theorem bits_not (a b j : Nat) (h : bitN b j < bitN a j) : ¬ ∀ i, a.testBit i = true → b.testBit i = true := by
  intro hh
  unfold bitN at h
  have := hh j
  rw [Nat.testBit_eq_decide_div_mod_eq, decide_eq_true_eq, Nat.testBit_eq_decide_div_mod_eq, decide_eq_true_eq] at this
  omega

def S2 (w : World) (la ca lb cb : Int) (w' : World) : Prop :=
  (w'.cell? ⟨w.heap.size, 0, none⟩ = some (.int .i64 la) ∧ w'.cell? ⟨w.heap.size, 1, none⟩ = some (.int .u32 ca) ∧
  w'.cell? ⟨w.heap.size + 1, 0, none⟩ = some (.int .i64 lb) ∧ w'.cell? ⟨w.heap.size + 1, 1, none⟩ = some (.int .u32 cb)) ∧ w.heap.size + 1 < w'.heap.size ∧ Below w.heap.size w w'
theorem S2.start (w : World) (la ca lb cb : Int) : S2 w la ca lb cb ((w.alloc (.cells #[.int .i64 la, .int .u32 ca] 24)).alloc (.cells #[.int .i64 lb, .int .u32 cb] 24)) := by
  refine ⟨⟨?_, ?_, ?_, ?_⟩, ?_, ?_⟩
  all_goals first | (simp [go_sem]; done) | go_grown
theorem S2.call {w W w1 : World} {la ca lb cb : Int} (h : S2 w la ca lb cb W) (hb : Below W.heap.size W w1) : S2 w la ca lb cb w1 := by
  obtain ⟨⟨h0, h1, h2, h3⟩, hs, bl⟩ := h
  have hz := hb.size
  exact ⟨⟨cell_keep hb (by show w.heap.size < _; omega) h0, cell_keep hb (by show w.heap.size < _; omega) h1, cell_keep hb (by show w.heap.size + 1 < _; omega) h2, cell_keep hb (by show w.heap.size + 1 < _; omega) h3⟩, by omega, bl.trans (hb.mono (by omega))⟩
theorem S2.drew {w W : World} {la ca lb cb : Int} (h : S2 w la ca lb cb W) : S2 w la ca lb cb W.drew := h.call (Below.refl _ _).drew

set_option maxHeartbeats 1000000 in
theorem refbelow_any (la lb : Int) (a b : Nat) (w : World) (ha : a < 4294967296) (hb : b < 4294967296) :
    Calls Try.prog 11 #[.agg #[.int .i64 la, .int .u32 (a : Int)], .agg #[.int .i64 lb, .int .u32 (b : Int)]] w fun e w' => e = .returned (.bool (belowB la a lb b)) ∧ Below w.heap.size w w' := by
  have hU : belowB la a lb b = true ↔ la ≤ lb ∧ Sub a b := belowB_iff la a lb b ⟨by omega, by omega⟩ ⟨by omega, by omega⟩
  have HU := hide hU
  clear hU
  by_cases hl : lb < la
  · go_enter Try.func11, Try.ntmps11
    go_wp2
    go_ret
    have : belowB la a lb b = false := by
      rw [Bool.eq_false_iff, ne_eq, unhide HU]
      omega
    exact ⟨by rw [this]; rfl, by go_grown⟩
  · go_enter Try.func11, Try.ntmps11
    go_wp2
    go_loopw [11] (fun i wr => ∃ k : Nat, k ≤ 32 ∧ i = .int .i64 k ∧ (∀ j, j < k → bitN a j ≤ bitN b j) ∧ S2 w la a lb b wr) (fun i _ => 32 - (intOf i).toNat)
    case atStart => exact ⟨0, by omega, rfl, fun j h => by omega, S2.start w _ _ _ _⟩
    case round =>
      obtain ⟨k, hk, rfl, hall, hS⟩ := hrel
      have HA := hide hall
      clear hall
      have hF := hS.1
      by_cases hlt : k < 32
      · go_wp2_with fail
        go_quiet ((go_at_call 31; exact Calls.quiet_of_same (bit_any _ _ _ (by omega) (by omega))))
        by_cases hbit : bitN b k < bitN a k
        · have hbit' : ((bitN b k : Nat) : Int) < ((bitN a k : Nat) : Int) := by omega
          go_wp2
          go_ret
          have : belowB la a lb b = false := by
            rw [Bool.eq_false_iff, ne_eq, unhide HU]
            intro hh
            exact bits_not a b k hbit hh.2
          exact ⟨by rw [this]; rfl, (hS.call (Joins.below_draws _ _ nq)).2.2⟩
        · have hbit' : ¬ ((bitN b k : Nat) : Int) < ((bitN a k : Nat) : Int) := by omega
          go_wp2
          go_roundw
          case rel =>
            refine ⟨k + 1, by omega, by go_num, fun j hj => ?_, hS.call (Joins.below_draws _ _ nq)⟩
            by_cases hjk : j = k
            · subst hjk; omega
            · exact unhide HA j (by omega)
          case measure => simp [intOf]; omega
      · go_wp2_with fail
        go_ret
        have hk2 : k = 32 := by omega
        subst hk2
        have : belowB la a lb b = true := (unhide HU).2 ⟨by omega, bits_sub _ _ (by omega) (unhide HA)⟩
        exact ⟨by rw [this]; rfl, hS.2.2⟩
end Go.Proofs.Ytbahnkomdndmkaa
