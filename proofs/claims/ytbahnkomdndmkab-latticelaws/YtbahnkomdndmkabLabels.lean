/- The contracts of the small functions on labels. -/
import Derived.Test.YtbahnkomdndmkabRows
import Derived.WalkKit
import Derived.ProofKit
import Derived.OpenShut
import Derived.Handy
namespace Go.Proofs.Ytbahnkomdndmkab
open Go.ChangeShapes Go.WideShapes Go.ChangeAt Go.RowKit

def belowB (la ca lb cb : Int) : Bool := decide (la ≤ lb) && (bits .andNot .u32 ca cb == 0)

set_option maxHeartbeats 400000 in
theorem below_any (la ca lb cb : Int) (w : World) :
    Calls Try.prog 26 #[.agg #[.int .i64 la, .int .u32 ca], .agg #[.int .i64 lb, .int .u32 cb]] w fun e w' => e = .returned (.bool (belowB la ca lb cb)) ∧ Below w.heap.size w w' := by
  by_cases h : la ≤ lb
  · go_enter Try.func26, Try.ntmps26
    go_wp2
    go_ret
    exact ⟨by simp [belowB, h], by go_grown⟩
  · have h' : decide (la ≤ lb) = false := by simpa using h
    go_enter Try.func26, Try.ntmps26
    go_wp2
    go_ret
    exact ⟨by simp [belowB, h'], by go_grown⟩

def withinB (n lo hi : Int) : Bool := decide (lo ≤ n) && decide (n ≤ hi)
theorem within_any (n lo hi : Int) (w : World) :
    Calls Try.prog 24 #[.int .i64 n, .int .i64 lo, .int .i64 hi] w fun e w' => e = .returned (.bool (withinB n lo hi)) ∧ w' = w := by
  by_cases h : lo ≤ n
  · go_enter Try.func24, Try.ntmps24
    go_wp2
    go_ret
    exact ⟨by simp [withinB, h], rfl⟩
  · have h' : decide (lo ≤ n) = false := by simpa using h
    go_enter Try.func24, Try.ntmps24
    go_wp2
    go_ret
    exact ⟨by simp [withinB, h'], rfl⟩

def checkN (l : Int) : Int := if 0 ≤ l ∧ l ≤ 15 then 0 else 10
theorem check_any (l c : Int) (w : World) :
    Calls Try.prog 10 #[.agg #[.int .i64 l, .int .u32 c]] w fun e w' => e = .returned (.int .i64 (checkN l)) ∧ Below w.heap.size w w' := by
  by_cases h : 0 ≤ l ∧ l ≤ 15
  · have hb : withinB l 0 15 = true := by simp [withinB, h]
    go_enter Try.func10, Try.ntmps10
    go_wp2_with (go_at_call 24; refine (within_any _ _ _ _).mono ?_; rintro e w' ⟨rfl, rfl⟩)
    go_ret
    exact ⟨by simp [checkN, h], by go_grown⟩
  · have hb : withinB l 0 15 = false := by simp [withinB]; omega
    go_enter Try.func10, Try.ntmps10
    go_wp2_with (go_at_call 24; refine (within_any _ _ _ _).mono ?_; rintro e w' ⟨rfl, rfl⟩)
    go_ret
    exact ⟨by simp [checkN, h], by go_grown⟩

theorem of_any (l c : Int) (w : World) :
    Calls Try.prog 25 #[.int .i64 l, .int .u32 c] w fun e w' => e = .returned (.agg #[.int .i64 l, .int .u32 c]) ∧ Below w.heap.size w w' := by
  go_enter Try.func25, Try.ntmps25
  go_wp2
  go_returns
  exact ⟨rfl, by go_grown⟩

/-- n labels in a row of cells: levels and compartments by their place -/
def LabRow (w : World) (b off n : Nat) (L C : Nat → Int) : Prop :=
  ∀ i, i < n → w.cell? ⟨b, off + i * 2, none⟩ = some (.int .i64 (L i)) ∧ w.cell? ⟨b, off + i * 2 + 1, none⟩ = some (.int .u32 (C i))
def jl (L : Nat → Int) : Nat → Int | 0 => L 0 | k + 1 => if jl L k < L (k + 1) then L (k + 1) else jl L k
def jc (C : Nat → Int) : Nat → Int | 0 => C 0 | k + 1 => bits .or .u32 (jc C k) (C (k + 1))
def ml (L : Nat → Int) : Nat → Int | 0 => L 0 | k + 1 => if L (k + 1) < ml L k then L (k + 1) else ml L k
def mc (C : Nat → Int) : Nat → Int | 0 => C 0 | k + 1 => bits .and .u32 (mc C k) (C (k + 1))

theorem LabRow.below {w w' : World} {B b off n : Nat} {L C : Nat → Int} (h : LabRow w b off n L C) (hb : Below B w w') (hB : b < B) : LabRow w' b off n L C := by
  intro i hi
  have := h i hi
  rw [hb.cell (p := ⟨b, _, none⟩) hB, hb.cell (p := ⟨b, _, none⟩) hB]
  exact this

def Box2 (w : World) (b : Nat) (l c : Int) : Prop :=
  w.cell? ⟨b, 0, none⟩ = some (.int .i64 l) ∧ w.cell? ⟨b, 1, none⟩ = some (.int .u32 c) ∧ w.frozen? ⟨b, 0, none⟩ = false ∧ w.frozen? ⟨b, 1, none⟩ = false
def FoldRel (w : World) (l c : Int) (wr : World) : Prop :=
  Box2 wr (w.heap.size + 1) l c ∧ Box2 wr w.heap.size 0 0 ∧ w.heap.size + 1 < wr.heap.size ∧ Below w.heap.size w wr
theorem FoldRel.start (w : World) (l c : Int) : FoldRel w l c ((w.alloc (.cells #[.int .i64 0, .int .u32 0] 24)).alloc (.cells #[.int .i64 l, .int .u32 c] 24)) := by
  refine ⟨⟨?_, ?_, ?_, ?_⟩, ⟨?_, ?_, ?_, ?_⟩, ?_, ?_⟩
  all_goals first | (simp [go_sem]; done) | go_grown

theorem FoldRel.step {w wr : World} {l c : Int} (h : FoldRel w l c wr) (l' c' : Int) (o : Obj) :
    FoldRel w l' c' (((wr.setCell ⟨w.heap.size + 1, 0, none⟩ (.int .i64 l')).setCell ⟨w.heap.size + 1, 1, none⟩ (.int .u32 c')).alloc o) := by
  obtain ⟨⟨c0, c1, f0, f1⟩, ⟨d0, d1, g0, g1⟩, hs, bel⟩ := h
  have hl1 : w.heap.size + 1 < ((wr.setCell ⟨w.heap.size + 1, 0, none⟩ (.int .i64 l')).setCell ⟨w.heap.size + 1, 1, none⟩ (.int .u32 c')).heap.size := by simpa using hs
  have hl0 : w.heap.size < ((wr.setCell ⟨w.heap.size + 1, 0, none⟩ (.int .i64 l')).setCell ⟨w.heap.size + 1, 1, none⟩ (.int .u32 c')).heap.size := by omega
  have B : Below (wr.heap.size) ((wr.setCell ⟨w.heap.size + 1, 0, none⟩ (.int .i64 l')).setCell ⟨w.heap.size + 1, 1, none⟩ (.int .u32 c')) ((((wr.setCell ⟨w.heap.size + 1, 0, none⟩ (.int .i64 l')).setCell ⟨w.heap.size + 1, 1, none⟩ (.int .u32 c'))).alloc o) := (Below.refl _ _).alloc (by simp) o
  refine ⟨⟨?_, ?_, ?_, ?_⟩, ⟨?_, ?_, ?_, ?_⟩, ?_, ?_⟩
  · rw [B.cell hs]; simp [go_sem, c0]
  · rw [B.cell hs]; simp [go_sem, c1]
  · rw [B.frozen hs]; simp [f0]
  · rw [B.frozen hs]; simp [f1]
  · rw [B.cell (by show w.heap.size < _; omega)]; simp [go_sem, d0]
  · rw [B.cell (by show w.heap.size < _; omega)]; simp [go_sem, d1]
  · rw [B.frozen (by show w.heap.size < _; omega)]; simp [g0]
  · rw [B.frozen (by show w.heap.size < _; omega)]; simp [g1]
  · simp; omega
  · exact ((bel.setCell (Nat.le_succ _) _).setCell (Nat.le_succ _) _).alloc (by simp; omega) _

set_option maxHeartbeats 1000000 in
theorem join_any (b off m cap : Nat) (L C : Nat → Int) (w : World) (hr : LabRow w b off (m + 1) L C) (hb : b < w.heap.size) (hm : m + 1 ≤ cap) (hc : cap ≤ maxLen) :
    Calls Try.prog 8 #[.slice (some ⟨b, off, none⟩) (m + 1) cap] w fun e w' => e = .returned (.agg #[.int .i64 (jl L m), .int .u32 (jc C m)]) ∧ Below w.heap.size w w' := by
  unfold maxLen at hc
  have h0 := hr 0 (by omega)
  have h1 := h0.1
  have h2 := h0.2
  simp only [Nat.zero_mul, Nat.add_zero] at h1 h2
  clear h0
  have hne : (((m : Int) + 1) == 0) = false := by simp; omega
  by_cases hcap : cap = 1
  · subst hcap
    have hm0 : m = 0 := by omega
    subst hm0
    go_enter Try.func8, Try.ntmps8
    go_wp2
    go_loopw [16] (fun i wr => i = .int .i64 0 ∧ FoldRel w (L 0) (C 0) wr) (fun _ _ => 0)
    case atStart => exact ⟨rfl, FoldRel.start w _ _⟩
    case round =>
      obtain ⟨rfl, ⟨c0, c1, f0, f1⟩, ⟨d0, d1, g0, g1⟩, hs, bel⟩ := hrel
      go_wp2
      exact bodyPost_ret (v := .agg #[.int .i64 (L 0), .int .u32 (C 0)]) (by simp [results, Try.results8, go_sem, d0, d1]) rfl ⟨rfl, (bel.setCell (Nat.le_refl _) _).setCell (Nat.le_refl _) _⟩
  · go_enter Try.func8, Try.ntmps8
    go_wp2
    go_loopw [16] (fun i wr => ∃ k : Nat, k ≤ m ∧ i = .int .i64 k ∧ FoldRel w (jl L k) (jc C k) wr) (fun i _ => m - (intOf i).toNat)
    case atStart => exact ⟨0, Nat.zero_le _, rfl, FoldRel.start w _ _⟩
    case round =>
      obtain ⟨k, hk, rfl, ⟨c0, c1, f0, f1⟩, ⟨d0, d1, g0, g1⟩, hs, bel⟩ := hrel
      by_cases hlt : k < m
      · have e := (hr.below bel hb) (k + 1) (by omega)
        have e0 := e.1
        have e1 := e.2
        rw [show off + (k + 1) * 2 = off + 2 + k * 2 from by omega] at e0 e1
        clear e
        go_wp2
        go_roundw
        case rel => exact ⟨k + 1, by omega, by go_num, FoldRel.step ⟨⟨c0, c1, f0, f1⟩, ⟨d0, d1, g0, g1⟩, hs, bel⟩ _ _ _⟩
        case measure => simp [intOf]; omega
      · have hkm : k = m := by omega
        subst hkm
        go_wp2
        exact bodyPost_ret (v := .agg #[.int .i64 (jl L k), .int .u32 (jc C k)]) (by simp [results, Try.results8, go_sem, d0, d1]) rfl ⟨rfl, (bel.setCell (Nat.le_refl _) _).setCell (Nat.le_refl _) _⟩

set_option maxHeartbeats 1000000 in
theorem meet_any (b off m cap : Nat) (L C : Nat → Int) (w : World) (hr : LabRow w b off (m + 1) L C) (hb : b < w.heap.size) (hm : m + 1 ≤ cap) (hc : cap ≤ maxLen) :
    Calls Try.prog 9 #[.slice (some ⟨b, off, none⟩) (m + 1) cap] w fun e w' => e = .returned (.agg #[.int .i64 (ml L m), .int .u32 (mc C m)]) ∧ Below w.heap.size w w' := by
  unfold maxLen at hc
  have h0 := hr 0 (by omega)
  have h1 := h0.1
  have h2 := h0.2
  simp only [Nat.zero_mul, Nat.add_zero] at h1 h2
  clear h0
  have hne : (((m : Int) + 1) == 0) = false := by simp; omega
  by_cases hcap : cap = 1
  · subst hcap
    have hm0 : m = 0 := by omega
    subst hm0
    go_enter Try.func9, Try.ntmps9
    go_wp2
    go_loopw [16] (fun i wr => i = .int .i64 0 ∧ FoldRel w (L 0) (C 0) wr) (fun _ _ => 0)
    case atStart => exact ⟨rfl, FoldRel.start w _ _⟩
    case round =>
      obtain ⟨rfl, ⟨c0, c1, f0, f1⟩, ⟨d0, d1, g0, g1⟩, hs, bel⟩ := hrel
      go_wp2
      exact bodyPost_ret (v := .agg #[.int .i64 (L 0), .int .u32 (C 0)]) (by simp [results, Try.results9, go_sem, d0, d1]) rfl ⟨rfl, (bel.setCell (Nat.le_refl _) _).setCell (Nat.le_refl _) _⟩
  · go_enter Try.func9, Try.ntmps9
    go_wp2
    go_loopw [16] (fun i wr => ∃ k : Nat, k ≤ m ∧ i = .int .i64 k ∧ FoldRel w (ml L k) (mc C k) wr) (fun i _ => m - (intOf i).toNat)
    case atStart => exact ⟨0, Nat.zero_le _, rfl, FoldRel.start w _ _⟩
    case round =>
      obtain ⟨k, hk, rfl, ⟨c0, c1, f0, f1⟩, ⟨d0, d1, g0, g1⟩, hs, bel⟩ := hrel
      by_cases hlt : k < m
      · have e := (hr.below bel hb) (k + 1) (by omega)
        have e0 := e.1
        have e1 := e.2
        rw [show off + (k + 1) * 2 = off + 2 + k * 2 from by omega] at e0 e1
        clear e
        go_wp2
        go_roundw
        case rel => exact ⟨k + 1, by omega, by go_num, FoldRel.step ⟨⟨c0, c1, f0, f1⟩, ⟨d0, d1, g0, g1⟩, hs, bel⟩ _ _ _⟩
        case measure => simp [intOf]; omega
      · have hkm : k = m := by omega
        subst hkm
        go_wp2
        exact bodyPost_ret (v := .agg #[.int .i64 (ml L k), .int .u32 (mc C k)]) (by simp [results, Try.results9, go_sem, d0, d1]) rfl ⟨rfl, (bel.setCell (Nat.le_refl _) _).setCell (Nat.le_refl _) _⟩

theorem join_none (a : Option Addr) (cap : Nat) (w : World) : Calls Try.prog 8 #[.slice a 0 cap] w fun e w' => e = .returned (.agg #[.int .i64 0, .int .u32 0]) ∧ Below w.heap.size w w' := by
  go_enter Try.func8, Try.ntmps8
  go_wp2
  go_returns
  exact ⟨rfl, by go_grown⟩
end Go.Proofs.Ytbahnkomdndmkab
