/- What a policy must be: lattice, as the desk calls it. -/
import Derived.Test.YthgacmlbmcehmaaRows
import Derived.Deep.RegionHeld3
import Derived.WalkKit
import Derived.ProofKit
import Derived.OpenShut
import Derived.Handy
import Derived.Lib.SmallJoins
import Derived.ChangeOld
import Derived.Deep.QuietTactic
import Derived.BigQuiet
import Derived.Deep.RegionWith
import Derived.Deep.SlicePairs
namespace Go.Proofs.Ythgacmlbmcehmaa
set_option linter.unusedVariables false
set_option linter.unusedSimpArgs false
open Go.ChangeShapes Go.WideShapes Go.ChangeAt Go.RowKit Go.Joins Go.Deep

def belowB (la ca lb cb : Int) : Bool := decide (la ≤ lb) && (bits .andNot .u32 ca cb == 0)
def withinB (n lo hi : Int) : Bool := decide (lo ≤ n) && decide (n ≤ hi)
theorem within_any (n lo hi : Int) (w : World) :
    Calls Try.prog 50 #[.int .i64 n, .int .i64 lo, .int .i64 hi] w fun e w' => e = .returned (.bool (withinB n lo hi)) ∧ w' = w := by
  by_cases h : lo ≤ n
  · go_enter Try.func50, Try.ntmps50
    go_wp2
    go_ret
    exact ⟨by simp [withinB, h], rfl⟩
  · have h' : decide (lo ≤ n) = false := by simpa using h
    go_enter Try.func50, Try.ntmps50
    go_wp2
    go_ret
    exact ⟨by simp [withinB, h'], rfl⟩
def checkN (l : Int) : Int := if 0 ≤ l ∧ l ≤ 15 then 0 else 10
theorem check_any (l c : Int) (w : World) :
    Calls Try.prog 51 #[.agg #[.int .i64 l, .int .u32 c]] w fun e w' => e = .returned (.int .i64 (checkN l)) ∧ Below w.heap.size w w' := by
  by_cases h : 0 ≤ l ∧ l ≤ 15
  · have hb : withinB l 0 15 = true := by simp [withinB, h]
    go_enter Try.func51, Try.ntmps51
    go_wp2_with (go_at_call 50; refine (within_any _ _ _ _).mono ?_; rintro e w' ⟨rfl, rfl⟩)
    go_ret
    exact ⟨by simp [checkN, h], by go_grown⟩
  · have hb : withinB l 0 15 = false := by simp [withinB]; omega
    go_enter Try.func51, Try.ntmps51
    go_wp2_with (go_at_call 50; refine (within_any _ _ _ _).mono ?_; rintro e w' ⟨rfl, rfl⟩)
    go_ret
    exact ⟨by simp [checkN, h], by go_grown⟩
/-- n labels in a row of cells: levels and compartments by their place -/
def LabRow (w : World) (b off n : Nat) (L C : Nat → Int) : Prop :=
  ∀ i, i < n → w.cell? ⟨b, off + i * 2, none⟩ = some (.int .i64 (L i)) ∧ w.cell? ⟨b, off + i * 2 + 1, none⟩ = some (.int .u32 (C i))
def jl (L : Nat → Int) : Nat → Int | 0 => L 0 | k + 1 => if jl L k < L (k + 1) then L (k + 1) else jl L k
def jc (C : Nat → Int) : Nat → Int | 0 => C 0 | k + 1 => bits .or .u32 (jc C k) (C (k + 1))
def ml (L : Nat → Int) : Nat → Int | 0 => L 0 | k + 1 => if L (k + 1) < ml L k then L (k + 1) else ml L k
def mc (C : Nat → Int) : Nat → Int | 0 => C 0 | k + 1 => bits .and .u32 (mc C k) (C (k + 1))
theorem LabRow.below {w w' : World} {B b off n : Nat} {L C : Nat → Int} (h : LabRow w b off n L C) (hb : Below B w w') (hB : b < B) : LabRow w' b off n L C := by
  intro i hi
  have := h i hi
  rw [hb.cell (p := ⟨b, _, none⟩) hB, hb.cell (p := ⟨b, _, none⟩) hB]
  exact this
def Box2 (w : World) (b : Nat) (l c : Int) : Prop :=
  w.cell? ⟨b, 0, none⟩ = some (.int .i64 l) ∧ w.cell? ⟨b, 1, none⟩ = some (.int .u32 c) ∧ w.frozen? ⟨b, 0, none⟩ = false ∧ w.frozen? ⟨b, 1, none⟩ = false
def FoldRel (w : World) (l c : Int) (wr : World) : Prop :=
  Box2 wr (w.heap.size + 1) l c ∧ Box2 wr w.heap.size 0 0 ∧ w.heap.size + 1 < wr.heap.size ∧ Below w.heap.size w wr
theorem FoldRel.start (w : World) (l c : Int) : FoldRel w l c ((w.alloc (.cells #[.int .i64 0, .int .u32 0] 89)).alloc (.cells #[.int .i64 l, .int .u32 c] 89)) := by
  refine ⟨⟨?_, ?_, ?_, ?_⟩, ⟨?_, ?_, ?_, ?_⟩, ?_, ?_⟩
  all_goals first | (simp [go_sem]; done) | go_grown
theorem FoldRel.step {w wr : World} {l c : Int} (h : FoldRel w l c wr) (l' c' : Int) (o : Obj) :
    FoldRel w l' c' (((wr.setCell ⟨w.heap.size + 1, 0, none⟩ (.int .i64 l')).setCell ⟨w.heap.size + 1, 1, none⟩ (.int .u32 c')).alloc o) := by
  obtain ⟨⟨c0, c1, f0, f1⟩, ⟨d0, d1, g0, g1⟩, hs, bel⟩ := h
  have hl1 : w.heap.size + 1 < ((wr.setCell ⟨w.heap.size + 1, 0, none⟩ (.int .i64 l')).setCell ⟨w.heap.size + 1, 1, none⟩ (.int .u32 c')).heap.size := by simpa using hs
  have hl0 : w.heap.size < ((wr.setCell ⟨w.heap.size + 1, 0, none⟩ (.int .i64 l')).setCell ⟨w.heap.size + 1, 1, none⟩ (.int .u32 c')).heap.size := by omega
  have B : Below (wr.heap.size) ((wr.setCell ⟨w.heap.size + 1, 0, none⟩ (.int .i64 l')).setCell ⟨w.heap.size + 1, 1, none⟩ (.int .u32 c')) ((((wr.setCell ⟨w.heap.size + 1, 0, none⟩ (.int .i64 l')).setCell ⟨w.heap.size + 1, 1, none⟩ (.int .u32 c'))).alloc o) := (Below.refl _ _).alloc (by simp) o
  refine ⟨⟨?_, ?_, ?_, ?_⟩, ⟨?_, ?_, ?_, ?_⟩, ?_, ?_⟩
  · rw [B.cell hs]; simp [go_sem, c0]
  · rw [B.cell hs]; simp [go_sem, c1]
  · rw [B.frozen hs]; simp [f0]
  · rw [B.frozen hs]; simp [f1]
  · rw [B.cell (by show w.heap.size < _; omega)]; simp [go_sem, d0]
  · rw [B.cell (by show w.heap.size < _; omega)]; simp [go_sem, d1]
  · rw [B.frozen (by show w.heap.size < _; omega)]; simp [g0]
  · rw [B.frozen (by show w.heap.size < _; omega)]; simp [g1]
  · simp; omega
  · exact ((bel.setCell (Nat.le_succ _) _).setCell (Nat.le_succ _) _).alloc (by simp; omega) _
def U32 (c : Int) : Prop := 0 ≤ c ∧ c < 4294967296
theorem compl_testBit (b i : Nat) (hb : b < 4294967296) : (4294967295 - b).testBit i = (decide (i < 32) && !b.testBit i) := by
  have := Nat.testBit_two_pow_sub_succ (x := b) (n := 32) (by simpa using hb) i
  simpa using this
/-- no bit of a that b has not -/
theorem andNot_zero (a b : Nat) (ha : a < 4294967296) (hb : b < 4294967296) : (a &&& (4294967295 - b)) = 0 ↔ ∀ i, a.testBit i = true → b.testBit i = true := by
  constructor
  · intro h i hi
    have h1 : (a &&& (4294967295 - b)).testBit i = false := by rw [h]; simp
    rw [Nat.testBit_and, hi, compl_testBit b i hb] at h1
    by_cases h32 : i < 32
    · simpa [h32] using h1
    · exfalso
      have : a < 2 ^ i := Nat.lt_of_lt_of_le (by simpa using ha) (Nat.pow_le_pow_right (by decide) (Nat.le_of_not_lt h32) : 2 ^ 32 ≤ 2 ^ i)
      rw [Nat.testBit_lt_two_pow this] at hi
      cases hi
  · intro h
    apply Nat.eq_of_testBit_eq
    intro i
    rw [Nat.testBit_and, compl_testBit b i hb]
    simp only [Nat.zero_testBit]
    cases hi : a.testBit i
    · simp
    · simp [h i hi]
def Sub (a b : Int) : Prop := ∀ i, a.toNat.testBit i = true → b.toNat.testBit i = true
theorem belowB_iff (la ca lb cb : Int) (ha : U32 ca) (hb : U32 cb) : belowB la ca lb cb = true ↔ la ≤ lb ∧ Sub ca cb := by
  obtain ⟨a0, a1⟩ := ha
  obtain ⟨b0, b1⟩ := hb
  unfold belowB Sub
  rw [u32_andNot ca cb a0 a1 b0 b1, Bool.and_eq_true, decide_eq_true_eq, beq_iff_eq]
  have := andNot_zero ca.toNat cb.toNat (by omega) (by omega)
  rw [← this]
  omega
theorem sub_antisymm (a b : Int) (ha : U32 a) (hb : U32 b) (h1 : Sub a b) (h2 : Sub b a) : a = b := by
  have : a.toNat = b.toNat := by
    apply Nat.eq_of_testBit_eq
    intro i
    cases h : a.toNat.testBit i
    · cases h' : b.toNat.testBit i
      · rfl
      · have := h2 i h'; rw [h] at this; cases this
    · exact (h1 i h).symm
  obtain ⟨_, _⟩ := ha
  obtain ⟨_, _⟩ := hb
  omega
theorem below_refl (l c : Int) (hc : U32 c) : belowB l c l c = true := (belowB_iff _ _ _ _ hc hc).2 ⟨Int.le_refl _, fun _ h => h⟩
theorem below_antisymm (la ca lb cb : Int) (ha : U32 ca) (hb : U32 cb) (h1 : belowB la ca lb cb = true) (h2 : belowB lb cb la ca = true) : la = lb ∧ ca = cb := by
  rw [belowB_iff _ _ _ _ ha hb] at h1
  rw [belowB_iff _ _ _ _ hb ha] at h2
  exact ⟨Int.le_antisymm h1.1 h2.1, sub_antisymm _ _ ha hb h1.2 h2.2⟩
theorem below_trans (la ca lb cb lc cc : Int) (ha : U32 ca) (hb : U32 cb) (hc : U32 cc) (h1 : belowB la ca lb cb = true) (h2 : belowB lb cb lc cc = true) : belowB la ca lc cc = true := by
  rw [belowB_iff _ _ _ _ ha hb] at h1
  rw [belowB_iff _ _ _ _ hb hc] at h2
  exact (belowB_iff _ _ _ _ ha hc).2 ⟨Int.le_trans h1.1 h2.1, fun i h => h2.2 i (h1.2 i h)⟩
theorem own : ownKnob Try.prog.godebug = none := by kernel_rfl
theorem laidOut : laidOutB Try.prog = true := by kernel_rfl
theorem cells24 : Try.prog.cellsOf 89 = 2 := by kernel_rfl
theorem open_label {H : Type} {enc : TypeId × Value → H} {W : World} {b0 base : Nat} {spare : Nat → Bool} {held : Bool} {v : Value} {d : DataW H} {p : List MemPlace}
    (hv : Value.okWide Try.prog W .any b0 89 v) (h : DataW.Trod enc Try.prog W base spare held 89 v d p) :
    ∃ l c : Int, v = .agg #[.int .i64 l, .int .u32 c] ∧ (-9223372036854775808 ≤ l ∧ l ≤ 9223372036854775807) ∧ U32 c := by
  obtain ⟨c0, c1, y0, y1, m, rfl, _, _, hy0, hy1⟩ := open_agg2 Try.underlying89 (by kernel_rfl) cells24 hv h
  obtain ⟨l, e0, _, wl⟩ := DataW.trod_int Try.underlying3 hy0
  obtain ⟨c, e1, _, wc⟩ := DataW.trod_int Try.underlying87 hy1
  simp at e0 e1
  subst e0 e1
  refine ⟨l, c, rfl, bounds_i64 wl, ?_⟩
  have := bounds_u32 wc
  exact ⟨by omega, by omega⟩
theorem labrow_two {w : World} {b : Nat} {l0 c0 l1 c1 : Int} (h0 : w.cell? ⟨b, 0, none⟩ = some (.int .i64 l0)) (h1 : w.cell? ⟨b, 1, none⟩ = some (.int .u32 c0)) (h2 : w.cell? ⟨b, 2, none⟩ = some (.int .i64 l1)) (h3 : w.cell? ⟨b, 3, none⟩ = some (.int .u32 c1)) :
    LabRow w b 0 2 (fun i => if i = 0 then l0 else l1) (fun i => if i = 0 then c0 else c1) := by
  intro i hi
  match i, hi with
  | 0, _ => exact ⟨by simpa using h0, by simpa using h1⟩
  | 1, _ => exact ⟨by simpa using h2, by simpa using h3⟩
theorem cell_keep {B : Nat} {W w1 : World} {a : Addr} {v : Value} (hb : Below B W w1) (ha : a.block < B) (h : W.cell? a = some v) : w1.cell? a = some v := by rw [hb.cell ha]; exact h
def AwS (w : World) (N : Nat) (w' : World) : Prop :=
  w'.cell? ⟨N, 0, none⟩ = some (.int .i64 1) ∧ w'.cell? ⟨N, 1, none⟩ = some (.int .u32 1) ∧ w'.cell? ⟨N + 1, 0, none⟩ = some (.int .i64 2) ∧ w'.cell? ⟨N + 1, 1, none⟩ = some (.int .u32 2) ∧ N + 1 < w'.heap.size ∧ Below w.heap.size w w' ∧ w.heap.size ≤ N
theorem AwS.drew {w W : World} {N : Nat} (h : AwS w N W) : AwS w N W.drew := ⟨h.1, h.2.1, h.2.2.1, h.2.2.2.1, h.2.2.2.2.1, h.2.2.2.2.2.1.drew, h.2.2.2.2.2.2⟩
theorem AwS.call {w W w1 : World} {N : Nat} (h : AwS w N W) (hb : Below W.heap.size W w1) : AwS w N w1 := by
  obtain ⟨h0, h1, h2, h3, hs, bl, hn⟩ := h
  have hz := hb.size
  exact ⟨cell_keep hb (by show N < _; omega) h0, cell_keep hb (by show N < _; omega) h1, cell_keep hb hs h2, cell_keep hb hs h3, by omega, bl.trans (hb.mono (by omega)), hn⟩
theorem AwS.alloc {w W : World} {N : Nat} (h : AwS w N W) (o : Obj) : AwS w N (W.alloc o) := h.call ((Below.refl _ _).alloc (Nat.le_refl _) o)
theorem hide {p : Prop} (h : p) : Hid p := h
theorem unhide {p : Prop} (h : Hid p) : p := h
def bitN (n i : Nat) : Nat := n / 2 ^ i % 2
theorem bits_sub (a b : Nat) (ha : a < 4294967296) (h : ∀ j, j < 32 → bitN a j ≤ bitN b j) : ∀ i, a.testBit i = true → b.testBit i = true := by
  intro i hi
  by_cases h32 : i < 32
  · have := h i h32
    unfold bitN at this
    rw [Nat.testBit_eq_decide_div_mod_eq, decide_eq_true_eq] at hi ⊢
    omega
  · exfalso
    have : a < 2 ^ i := Nat.lt_of_lt_of_le (by simpa using ha) (Nat.pow_le_pow_right (by decide) (Nat.le_of_not_lt h32) : 2 ^ 32 ≤ 2 ^ i)
    rw [Nat.testBit_lt_two_pow this] at hi
    cases hi
theorem bits_not (a b j : Nat) (h : bitN b j < bitN a j) : ¬ ∀ i, a.testBit i = true → b.testBit i = true := by
  intro hh
  unfold bitN at h
  have := hh j
  rw [Nat.testBit_eq_decide_div_mod_eq, decide_eq_true_eq, Nat.testBit_eq_decide_div_mod_eq, decide_eq_true_eq] at this
  omega
def S2 (w : World) (la ca lb cb : Int) (w' : World) : Prop :=
  (w'.cell? ⟨w.heap.size, 0, none⟩ = some (.int .i64 la) ∧ w'.cell? ⟨w.heap.size, 1, none⟩ = some (.int .u32 ca) ∧
  w'.cell? ⟨w.heap.size + 1, 0, none⟩ = some (.int .i64 lb) ∧ w'.cell? ⟨w.heap.size + 1, 1, none⟩ = some (.int .u32 cb)) ∧ w.heap.size + 1 < w'.heap.size ∧ Below w.heap.size w w'
theorem S2.start (w : World) (la ca lb cb : Int) : S2 w la ca lb cb ((w.alloc (.cells #[.int .i64 la, .int .u32 ca] 89)).alloc (.cells #[.int .i64 lb, .int .u32 cb] 89)) := by
  refine ⟨⟨?_, ?_, ?_, ?_⟩, ?_, ?_⟩
  all_goals first | (simp [go_sem]; done) | go_grown
theorem S2.call {w W w1 : World} {la ca lb cb : Int} (h : S2 w la ca lb cb W) (hb : Below W.heap.size W w1) : S2 w la ca lb cb w1 := by
  obtain ⟨⟨h0, h1, h2, h3⟩, hs, bl⟩ := h
  have hz := hb.size
  exact ⟨⟨cell_keep hb (by show w.heap.size < _; omega) h0, cell_keep hb (by show w.heap.size < _; omega) h1, cell_keep hb (by show w.heap.size + 1 < _; omega) h2, cell_keep hb (by show w.heap.size + 1 < _; omega) h3⟩, by omega, bl.trans (hb.mono (by omega))⟩
theorem S2.drew {w W : World} {la ca lb cb : Int} (h : S2 w la ca lb cb W) : S2 w la ca lb cb W.drew := h.call (Below.refl _ _).drew
/-- a policy's labels: n of them, in a row of cells -/
def PolLabs (w : World) (a : Option Addr) (n : Nat) (L C : Nat → Int) : Prop :=
  n ≤ maxLen ∧ (∀ i, i < n → U32 (C i)) ∧ (n = 0 ∨ ∃ b off, a = some ⟨b, off, none⟩ ∧ b < w.heap.size ∧ LabRow w b off n L C)
theorem PolLabs.call {w w1 : World} {a : Option Addr} {n : Nat} {L C : Nat → Int} (h : PolLabs w a n L C) (hb : Below w.heap.size w w1) : PolLabs w1 a n L C := by
  obtain ⟨h1, h2, h3⟩ := h
  refine ⟨h1, h2, ?_⟩
  rcases h3 with h3 | ⟨b, off, rfl, hlt, hr⟩
  · exact .inl h3
  · exact .inr ⟨b, off, rfl, Nat.lt_of_lt_of_le hlt hb.size, hr.below hb hlt⟩
def longB (n0 n1 n2 : Nat) : Bool := decide (200 < n0) || decide (200 < n1) || decide (200 < n2)
def placeB (i : Int) (n : Nat) : Bool := decide (0 ≤ i ∧ i < n)
def PB (w : World) (s0 s1 s2 : Value) (w' : World) : Prop :=
  (w'.cell? ⟨w.heap.size, 0, none⟩ = some s0 ∧ w'.cell? ⟨w.heap.size, 1, none⟩ = some s1 ∧ w'.cell? ⟨w.heap.size, 2, none⟩ = some s2) ∧ w.heap.size < w'.heap.size ∧ Below w.heap.size w w'
theorem PB.start (w : World) (s0 s1 s2 : Value) : PB w s0 s1 s2 (w.alloc (.cells #[s0, s1, s2] 26)) := by
  refine ⟨⟨?_, ?_, ?_⟩, ?_, ?_⟩
  all_goals first | (simp [go_sem]; done) | go_grown
theorem PB.call {w W w1 : World} {s0 s1 s2 : Value} (h : PB w s0 s1 s2 W) (hb : Below W.heap.size W w1) : PB w s0 s1 s2 w1 := by
  obtain ⟨⟨h0, h1, h2⟩, hs, bl⟩ := h
  have hz := hb.size
  exact ⟨⟨cell_keep hb hs h0, cell_keep hb hs h1, cell_keep hb hs h2⟩, by omega, bl.trans (hb.mono (by omega))⟩
theorem PB.drew {w W : World} {s0 s1 s2 : Value} (h : PB w s0 s1 s2 W) : PB w s0 s1 s2 W.drew := h.call (Below.refl _ _).drew
def SB (w : World) (s0 s1 s2 : Value) (b off i j : Nat) (li ci lj cj : Int) (w' : World) : Prop :=
  ((w'.cell? ⟨b, off + i * 2, none⟩ = some (.int .i64 li) ∧ w'.cell? ⟨b, off + i * 2 + 1, none⟩ = some (.int .u32 ci) ∧ w'.cell? ⟨b, off + j * 2, none⟩ = some (.int .i64 lj) ∧ w'.cell? ⟨b, off + j * 2 + 1, none⟩ = some (.int .u32 cj)) ∧ b < w.heap.size) ∧ PB w s0 s1 s2 w'
theorem SB.call {w W w1 : World} {s0 s1 s2 : Value} {b off i j : Nat} {li ci lj cj : Int} (h : SB w s0 s1 s2 b off i j li ci lj cj W) (hb : Below W.heap.size W w1) : SB w s0 s1 s2 b off i j li ci lj cj w1 := by
  obtain ⟨⟨⟨h0, h1, h2, h3⟩, hlt⟩, hp⟩ := h
  have hs := hp.2.1
  exact ⟨⟨⟨cell_keep hb (by show b < _; omega) h0, cell_keep hb (by show b < _; omega) h1, cell_keep hb (by show b < _; omega) h2, cell_keep hb (by show b < _; omega) h3⟩, hlt⟩, hp.call hb⟩
theorem SB.drew {w W : World} {s0 s1 s2 : Value} {b off i j : Nat} {li ci lj cj : Int} (h : SB w s0 s1 s2 b off i j li ci lj cj W) : SB w s0 s1 s2 b off i j li ci lj cj W.drew := h.call (Below.refl _ _).drew
theorem SB.start {w W : World} {s0 s1 s2 : Value} {b off i j : Nat} {li ci lj cj : Int} (hp : PB w s0 s1 s2 W) (hlt : b < w.heap.size) (ei : w.cell? ⟨b, off + i * 2, none⟩ = some (.int .i64 li) ∧ w.cell? ⟨b, off + i * 2 + 1, none⟩ = some (.int .u32 ci)) (ej : w.cell? ⟨b, off + j * 2, none⟩ = some (.int .i64 lj) ∧ w.cell? ⟨b, off + j * 2 + 1, none⟩ = some (.int .u32 cj)) : SB w s0 s1 s2 b off i j li ci lj cj W :=
  ⟨⟨⟨cell_keep hp.2.2 hlt ei.1, cell_keep hp.2.2 hlt ei.2, cell_keep hp.2.2 hlt ej.1, cell_keep hp.2.2 hlt ej.2⟩, hlt⟩, hp⟩
def seesB (n : Nat) (L C : Nat → Int) (v u : Int) : Bool := placeB v n && placeB u n && belowB (L u.toNat) (C u.toNat) (L v.toNat) (C v.toNat)
def QuoRow (w : World) (b off n : Nat) (A B C : Nat → Int) : Prop :=
  ∀ i, i < n → w.cell? ⟨b, off + i * 3, none⟩ = some (.int .i64 (A i)) ∧ w.cell? ⟨b, off + i * 3 + 1, none⟩ = some (.int .i64 (B i)) ∧ w.cell? ⟨b, off + i * 3 + 2, none⟩ = some (.int .i64 (C i))
def EntRow (w : World) (b off n : Nat) (A : Nat → Int) (S : Nat → ByteArray) (D : Nat → Bool) : Prop :=
  ∀ i, i < n → w.cell? ⟨b, off + i * 3, none⟩ = some (.int .i64 (A i)) ∧ w.cell? ⟨b, off + i * 3 + 1, none⟩ = some (.string (S i)) ∧ w.cell? ⟨b, off + i * 3 + 2, none⟩ = some (.bool (D i))
def I64 (n : Int) : Prop := -9223372036854775808 ≤ n ∧ n ≤ 9223372036854775807
def PolQuos (w : World) (a : Option Addr) (n : Nat) (A B C : Nat → Int) : Prop :=
  n ≤ maxLen ∧ (∀ i, i < n → I64 (A i) ∧ I64 (B i) ∧ I64 (C i)) ∧ (n = 0 ∨ ∃ b off, a = some ⟨b, off, none⟩ ∧ b < w.heap.size ∧ QuoRow w b off n A B C)
def PolEnts (w : World) (a : Option Addr) (n : Nat) (A : Nat → Int) (S : Nat → ByteArray) (D : Nat → Bool) : Prop :=
  n ≤ maxLen ∧ (∀ i, i < n → I64 (A i) ∧ (S i).size ≤ maxLen) ∧ (n = 0 ∨ ∃ b off, a = some ⟨b, off, none⟩ ∧ b < w.heap.size ∧ EntRow w b off n A S D)
theorem QuoRow.below {w w' : World} {B0 b off n : Nat} {A B C : Nat → Int} (h : QuoRow w b off n A B C) (hb : Below B0 w w') (hB : b < B0) : QuoRow w' b off n A B C := by
  intro i hi
  have := h i hi
  rw [hb.cell (p := ⟨b, _, none⟩) hB, hb.cell (p := ⟨b, _, none⟩) hB, hb.cell (p := ⟨b, _, none⟩) hB]
  exact this
theorem EntRow.below {w w' : World} {B0 b off n : Nat} {A : Nat → Int} {S : Nat → ByteArray} {D : Nat → Bool} (h : EntRow w b off n A S D) (hb : Below B0 w w') (hB : b < B0) : EntRow w' b off n A S D := by
  intro i hi
  have := h i hi
  rw [hb.cell (p := ⟨b, _, none⟩) hB, hb.cell (p := ⟨b, _, none⟩) hB, hb.cell (p := ⟨b, _, none⟩) hB]
  exact this
theorem PolQuos.call {w w1 : World} {a : Option Addr} {n : Nat} {A B C : Nat → Int} (h : PolQuos w a n A B C) (hb : Below w.heap.size w w1) : PolQuos w1 a n A B C := by
  obtain ⟨h1, h2, h3⟩ := h
  refine ⟨h1, h2, ?_⟩
  rcases h3 with h3 | ⟨b, off, rfl, hlt, hr⟩
  · exact .inl h3
  · exact .inr ⟨b, off, rfl, Nat.lt_of_lt_of_le hlt hb.size, hr.below hb hlt⟩
theorem PolEnts.call {w w1 : World} {a : Option Addr} {n : Nat} {A : Nat → Int} {S : Nat → ByteArray} {D : Nat → Bool} (h : PolEnts w a n A S D) (hb : Below w.heap.size w w1) : PolEnts w1 a n A S D := by
  obtain ⟨h1, h2, h3⟩ := h
  refine ⟨h1, h2, ?_⟩
  rcases h3 with h3 | ⟨b, off, rfl, hlt, hr⟩
  · exact .inl h3
  · exact .inr ⟨b, off, rfl, Nat.lt_of_lt_of_le hlt hb.size, hr.below hb hlt⟩
theorem lt_of_cell {w : World} {a : Addr} {v : Value} (h : w.cell? a = some v) : a.block < w.heap.size := by
  by_cases hlt : a.block < w.heap.size
  · exact hlt
  · exfalso
    obtain ⟨b, o, s⟩ := a
    simp [World.cell?, Array.getElem?_eq_none (Nat.le_of_not_lt hlt)] at h
theorem add_plain (b off : Nat) (k : Nat) : (⟨b, off, none⟩ : Addr).add k = ⟨b, off + k, none⟩ := by simp [Addr.add]
/-- a slice of three one-cell fields, each element's cells -/
theorem open_triples {H : Type} {enc : TypeId × Value → H} {P : Program} {w : World} {base : Nat} {spare : Nat → Bool} {held : Bool} {t e : TypeId} {f0 f1 f2 : Field} {fuel : Nat} {cs : List Value} {x : DataW H × List MemPlace}
    (ht : P.underlying t = some (.slice e)) (he : P.underlying e = some (.struct #[f0, f1, f2]))
    (ce : P.cellsOf e = 3) (o0 : f0.offset = 0) (o1 : f1.offset = 1) (o2 : f2.offset = 2) (c0 : P.cellsOf f0.type = 1) (c1 : P.cellsOf f1.type = 1) (c2 : P.cellsOf f2.type = 1)
    (h : DataW.trod enc P w base spare held fuel t cs = some x) :
    cs = [.slice none 0 0] ∨ ∃ (a : Addr) (len cap : Nat), cs = [.slice (some a) len cap] ∧ len ≤ cap ∧ cap ≤ maxLen ∧
      ∀ i, i < len → ∃ (v0 v1 v2 : Value) (y0 y1 y2 : DataW H × List MemPlace) (n : Nat), w.cell? (a.add (i * 3)) = some v0 ∧ w.cell? (a.add (i * 3 + 1)) = some v1 ∧ w.cell? (a.add (i * 3 + 2)) = some v2 ∧
        DataW.trod enc P w base spare held n f0.type [v0] = some y0 ∧ DataW.trod enc P w base spare held n f1.type [v1] = some y1 ∧ DataW.trod enc P w base spare held n f2.type [v2] = some y2 := by
  rcases open_slice ht h with h0 | ⟨a, len, cap, m, n, D, Pl, rfl, hb, hl, hm, hmm, rfl, hx⟩
  · exact Or.inl h0.1
  right
  have hlm : len ≤ m := by rw [hmm]; split <;> omega
  refine ⟨a, len, cap, rfl, hl, hm, fun i hi => ?_⟩
  obtain ⟨cs', h1, h2⟩ := hx i (by omega)
  rw [ce] at h1
  obtain ⟨_, hlen, hcell⟩ := World.cells?_some h1
  obtain ⟨xs, k, hk, hxy, _, hxl, hf⟩ := DataW.trod_struct he h2
  match xs, hxl, cs', hlen with
  | [y0, y1, y2], _, [v0, v1, v2], _ =>
    have g0 := hf 0 f0 rfl
    have g1 := hf 1 f1 rfl
    have g2 := hf 2 f2 rfl
    simp [o0, o1, o2, c0, c1, c2] at g0 g1 g2
    have e0 := hcell 0 (by omega)
    have e1 := hcell 1 (by omega)
    have e2 := hcell 2 (by omega)
    rw [add_add] at e0 e1 e2
    exact ⟨v0, v1, v2, y0, y1, y2, k, by simpa using e0, by simpa using e1, by simpa using e2, g0, g1, g2⟩
theorem cells34 : Try.prog.cellsOf 26 = 3 := by kernel_rfl
theorem open_policy {H : Type} {enc : TypeId × Value → H} {W : World} {b0 base : Nat} {spare : Nat → Bool} {held : Bool} {v : Value} {d : DataW H} {p : List MemPlace}
    (hv : Value.okWide Try.prog W .any b0 26 v) (h : DataW.Trod enc Try.prog W base spare held 26 v d p) :
    ∃ (a0 a1 a2 : Option Addr) (n0 n1 n2 c0 c1 c2 : Nat) (L C Q1 Q2 Q3 E : Nat → Int) (S : Nat → ByteArray) (D : Nat → Bool),
      v = .agg #[.slice a0 n0 c0, .slice a1 n1 c1, .slice a2 n2 c2] ∧ PolLabs W a0 n0 L C ∧ PolQuos W a1 n1 Q1 Q2 Q3 ∧ PolEnts W a2 n2 E S D ∧ n0 ≤ c0 ∧ n1 ≤ c1 ∧ n2 ≤ c2 ∧ c0 ≤ maxLen ∧ c1 ≤ maxLen ∧ c2 ≤ maxLen ∧ (∀ i, i < n0 → I64 (L i)) := by
  obtain ⟨u0, u1, u2, y0, y1, y2, m, rfl, _, _, hy0, hy1, hy2⟩ := open_agg3 Try.underlying26 (by kernel_rfl) cells34 hv h
  have H0 : ∃ (a : Option Addr) (n c : Nat) (L C : Nat → Int), u0 = .slice a n c ∧ PolLabs W a n L C ∧ n ≤ c ∧ c ≤ maxLen ∧ (∀ i, i < n → I64 (L i)) := by
    rcases open_slice_pairs Try.underlying22 Try.underlying89 (by kernel_rfl) rfl rfl (by kernel_rfl) (by kernel_rfl) hy0 with ⟨hcs, _⟩ | ⟨a, len, cap, k, n, V0, V1, D0, D1, P0, P1, hcs, _, hl, hm, hk, _, hx⟩
    · simp at hcs
      subst hcs
      exact ⟨none, 0, 0, fun _ => 0, fun _ => 0, rfl, ⟨Nat.zero_le _, fun i hi => by omega, .inl rfl⟩, Nat.le_refl _, Nat.zero_le _, fun i hi => by omega⟩
    · simp at hcs
      subst hcs
      have hlk : len ≤ k := by rw [hk]; split <;> omega
      have each : ∀ i, i < len → ∃ q : Int × Int, W.cell? (a.add (i * 2)) = some (.int .i64 q.1) ∧ W.cell? (a.add (i * 2 + 1)) = some (.int .u32 q.2) ∧ I64 q.1 ∧ U32 q.2 := by
        intro i hi
        obtain ⟨h0, h1, t0, t1⟩ := hx i (by omega)
        obtain ⟨l, e0, _, wl⟩ := DataW.trod_int Try.underlying3 t0
        obtain ⟨c, e1, _, wc⟩ := DataW.trod_int Try.underlying87 t1
        simp at e0 e1
        rw [e0] at h0
        rw [e1] at h1
        have := bounds_u32 wc
        exact ⟨(l, c), h0, h1, bounds_i64 wl, by constructor <;> simp <;> omega⟩
      obtain ⟨q, hq⟩ := choose_lt each
      refine ⟨some a, len, cap, fun i => (q i).1, fun i => (q i).2, rfl, ⟨by omega, fun i hi => (hq i hi).2.2.2, ?_⟩, hl, hm, fun i hi => (hq i hi).2.2.1⟩
      by_cases hz : len = 0
      · exact .inl hz
      · obtain ⟨b, off, spot⟩ := a
        have h0 := (hq 0 (by omega)).1
        have hspot : spot = none := by simpa [Addr.add] using World.cell?_spot h0
        subst hspot
        refine .inr ⟨b, off, rfl, lt_of_cell h0, fun i hi => ?_⟩
        have := hq i hi
        rw [add_plain, add_plain] at this
        exact ⟨this.1, this.2.1⟩
  have H1 : ∃ (a : Option Addr) (n c : Nat) (A B C : Nat → Int), u1 = .slice a n c ∧ PolQuos W a n A B C ∧ n ≤ c ∧ c ≤ maxLen := by
    rcases open_triples Try.underlying23 Try.underlying60 (by kernel_rfl) rfl rfl rfl (by kernel_rfl) (by kernel_rfl) (by kernel_rfl) hy1 with hcs | ⟨a, len, cap, hcs, hl, hm, hx⟩
    · simp at hcs
      subst hcs
      exact ⟨none, 0, 0, fun _ => 0, fun _ => 0, fun _ => 0, rfl, ⟨Nat.zero_le _, fun i hi => by omega, .inl rfl⟩, Nat.le_refl _, Nat.zero_le _⟩
    · simp at hcs
      subst hcs
      have each : ∀ i, i < len → ∃ q : Int × Int × Int, W.cell? (a.add (i * 3)) = some (.int .i64 q.1) ∧ W.cell? (a.add (i * 3 + 1)) = some (.int .i64 q.2.1) ∧ W.cell? (a.add (i * 3 + 2)) = some (.int .i64 q.2.2) ∧ I64 q.1 ∧ I64 q.2.1 ∧ I64 q.2.2 := by
        intro i hi
        obtain ⟨v0, v1, v2, z0, z1, z2, n, h0, h1, h2, t0, t1, t2⟩ := hx i hi
        obtain ⟨l, e0, _, wl⟩ := DataW.trod_int Try.underlying3 t0
        obtain ⟨c, e1, _, wc⟩ := DataW.trod_int Try.underlying3 t1
        obtain ⟨r, e2, _, wr⟩ := DataW.trod_int Try.underlying3 t2
        simp at e0 e1 e2
        rw [e0] at h0
        rw [e1] at h1
        rw [e2] at h2
        exact ⟨(l, c, r), h0, h1, h2, bounds_i64 wl, bounds_i64 wc, bounds_i64 wr⟩
      obtain ⟨q, hq⟩ := choose_lt each
      refine ⟨some a, len, cap, fun i => (q i).1, fun i => (q i).2.1, fun i => (q i).2.2, rfl, ⟨by omega, fun i hi => (hq i hi).2.2.2, ?_⟩, hl, hm⟩
      by_cases hz : len = 0
      · exact .inl hz
      · obtain ⟨b, off, spot⟩ := a
        have h0 := (hq 0 (by omega)).1
        have hspot : spot = none := by simpa [Addr.add] using World.cell?_spot h0
        subst hspot
        refine .inr ⟨b, off, rfl, lt_of_cell h0, fun i hi => ?_⟩
        have := hq i hi
        rw [add_plain, add_plain, add_plain] at this
        exact ⟨this.1, this.2.1, this.2.2.1⟩
  have H2 : ∃ (a : Option Addr) (n c : Nat) (A : Nat → Int) (S : Nat → ByteArray) (D : Nat → Bool), u2 = .slice a n c ∧ PolEnts W a n A S D ∧ n ≤ c ∧ c ≤ maxLen := by
    rcases open_triples Try.underlying24 Try.underlying63 (by kernel_rfl) rfl rfl rfl (by kernel_rfl) (by kernel_rfl) (by kernel_rfl) hy2 with hcs | ⟨a, len, cap, hcs, hl, hm, hx⟩
    · simp at hcs
      subst hcs
      exact ⟨none, 0, 0, fun _ => 0, fun _ => ByteArray.empty, fun _ => false, rfl, ⟨Nat.zero_le _, fun i hi => by omega, .inl rfl⟩, Nat.le_refl _, Nat.zero_le _⟩
    · simp at hcs
      subst hcs
      have each : ∀ i, i < len → ∃ q : Int × ByteArray × Bool, W.cell? (a.add (i * 3)) = some (.int .i64 q.1) ∧ W.cell? (a.add (i * 3 + 1)) = some (.string q.2.1) ∧ W.cell? (a.add (i * 3 + 2)) = some (.bool q.2.2) ∧ I64 q.1 ∧ q.2.1.size ≤ maxLen := by
        intro i hi
        obtain ⟨v0, v1, v2, z0, z1, z2, n, h0, h1, h2, t0, t1, t2⟩ := hx i hi
        obtain ⟨l, e0, _, wl⟩ := DataW.trod_int Try.underlying3 t0
        obtain ⟨c, e1, _, wc⟩ := DataW.trod_string Try.underlying9 t1
        obtain ⟨r, e2, _⟩ := DataW.trod_bool Try.underlying4 t2
        simp at e0 e1 e2
        rw [e0] at h0
        rw [e1] at h1
        rw [e2] at h2
        exact ⟨(l, c, r), h0, h1, h2, bounds_i64 wl, wc⟩
      obtain ⟨q, hq⟩ := choose_lt each
      refine ⟨some a, len, cap, fun i => (q i).1, fun i => (q i).2.1, fun i => (q i).2.2, rfl, ⟨by omega, fun i hi => ⟨(hq i hi).2.2.2.1, (hq i hi).2.2.2.2⟩, ?_⟩, hl, hm⟩
      by_cases hz : len = 0
      · exact .inl hz
      · obtain ⟨b, off, spot⟩ := a
        have h0 := (hq 0 (by omega)).1
        have hspot : spot = none := by simpa [Addr.add] using World.cell?_spot h0
        subst hspot
        refine .inr ⟨b, off, rfl, lt_of_cell h0, fun i hi => ?_⟩
        have := hq i hi
        rw [add_plain, add_plain, add_plain] at this
        exact ⟨this.1, this.2.1, this.2.2.1⟩
  obtain ⟨a0, n0, c0, L, C, rfl, p0, l0, m0, i0⟩ := H0
  obtain ⟨a1, n1, c1, Q1, Q2, Q3, rfl, p1, l1, m1⟩ := H1
  obtain ⟨a2, n2, c2, E, S, D, rfl, p2, l2, m2⟩ := H2
  exact ⟨a0, a1, a2, n0, n1, n2, c0, c1, c2, L, C, Q1, Q2, Q3, E, S, D, rfl, p0, p1, p2, l0, l1, l2, m0, m1, m2, i0⟩
theorem PB.bel {w W : World} {s0 s1 s2 : Value} (h : PB w s0 s1 s2 W) : Below w.heap.size w W := h.2.2
theorem within_id (n lo hi : Int) (w : World) : Calls Try.prog 50 #[.int .i64 n, .int .i64 lo, .int .i64 hi] w fun e w' => e = .returned (.bool (withinB n lo hi)) ∧ w = w' :=
  (within_any n lo hi w).mono fun e w' h => ⟨h.1, h.2.symm⟩
def At1 (n : Nat) (L C : Nat → Int) (l c : Int) (r : Int) : Prop :=
  (r = -1 ∧ ∀ i, i < n → ¬ (L i = l ∧ C i = c)) ∨ (∃ k : Nat, k < n ∧ r = k ∧ (L k = l ∧ C k = c) ∧ ∀ i, i < k → ¬ (L i = l ∧ C i = c))
def B2 (w : World) (l c : Int) (w' : World) : Prop :=
  (w'.cell? ⟨w.heap.size, 0, none⟩ = some (.int .i64 l) ∧ w'.cell? ⟨w.heap.size, 1, none⟩ = some (.int .u32 c)) ∧ w.heap.size < w'.heap.size ∧ Below w.heap.size w w'
theorem B2.start (w : World) (l c : Int) : B2 w l c (w.alloc (.cells #[.int .i64 l, .int .u32 c] 89)) := by
  refine ⟨⟨?_, ?_⟩, ?_, ?_⟩
  all_goals first | (simp [go_sem]; done) | go_grown
theorem B2.call {w W w1 : World} {l c : Int} (h : B2 w l c W) (hb : Below W.heap.size W w1) : B2 w l c w1 := by
  obtain ⟨⟨h0, h1⟩, hs, bl⟩ := h
  have hz := hb.size
  exact ⟨⟨cell_keep hb hs h0, cell_keep hb hs h1⟩, by omega, bl.trans (hb.mono (by omega))⟩
theorem B2.bel {w W : World} {l c : Int} (h : B2 w l c W) : Below w.heap.size w W := h.2.2
set_option maxHeartbeats 1000000 in
theorem indexl_any (a : Option Addr) (n cap : Nat) (L C : Nat → Int) (l c : Int) (w : World) (hp : PolLabs w a n L C) :
    Calls Try.prog 54 #[.slice a n cap, .agg #[.int .i64 l, .int .u32 c]] w fun e w' => (∃ r : Int, e = .returned (.int .i64 r) ∧ At1 n L C l c r) ∧ Below w.heap.size w w' := by
  have hst := B2.start w l c
  have hn : (n : Int) ≤ 9223372036854775807 := by have := hp.1; unfold maxLen at this; omega
  go_enter Try.func54, Try.ntmps54
  go_wp2_with fail
  go_loopw [8] (fun i wr => ∃ k : Nat, k ≤ n ∧ i = .int .i64 k ∧ (∀ j, j < k → ¬ (L j = l ∧ C j = c)) ∧ B2 w l c wr) (fun i _ => n - (intOf i).toNat)
  case atStart => exact ⟨0, Nat.zero_le _, rfl, fun j hj => by omega, hst⟩
  case round =>
    obtain ⟨k, hk, rfl, hall, hS⟩ := hrel
    have HA := hide hall
    clear hall
    have hF := hS.1
    by_cases hlt : k < n
    · rcases hp.2.2 with h0 | ⟨b, off, rfl, hb, hrow⟩
      · omega
      have hc := (hrow.below hS.2.2 hb) k hlt
      have g1 : (0 : Int) ≤ (k : Int) := by omega
      have g2 : (k : Int) < (n : Int) := by omega
      by_cases heq : L k = l ∧ C k = c
      · obtain ⟨rfl, rfl⟩ := heq
        go_wp2_with fail
        go_quiet (fail)
        go_wp2
        go_ret
        exact ⟨⟨(k : Int), rfl, .inr ⟨k, hlt, rfl, ⟨rfl, rfl⟩, unhide HA⟩⟩, (hS.call (Joins.below_draws _ _ nq)).2.2⟩
      · have hstep : ∀ j, j < k + 1 → ¬ (L j = l ∧ C j = c) := by
          intro j hj
          by_cases hjk : j = k
          · subst hjk; exact heq
          · exact unhide HA j (by omega)
        have HS := hide hstep
        clear hstep
        by_cases hl : l = L k
        · have hc' : (c == C k) = false := by
            rw [beq_eq_false_iff_ne]
            exact fun h => heq ⟨hl.symm, h.symm⟩
          subst hl
          clear heq
          go_wp2_with fail
          go_quiet (fail)
          go_wp2
          go_roundw
          case rel => exact ⟨k + 1, by omega, by go_num, unhide HS, hS.call (Joins.below_draws _ _ nq)⟩
          case measure => simp [intOf]; omega
        · have hl' : (l == L k) = false := by rw [beq_eq_false_iff_ne]; exact hl
          clear heq hl
          go_wp2_with fail
          go_quiet (fail)
          go_wp2
          go_roundw
          case rel => exact ⟨k + 1, by omega, by go_num, unhide HS, hS.call (Joins.below_draws _ _ nq)⟩
          case measure => simp [intOf]; omega
    · have hkn : k = n := by omega
      subst hkn
      go_wp2
      go_ret
      exact ⟨⟨-1, rfl, .inl ⟨rfl, unhide HA⟩⟩, hS.2.2⟩
/-- all of the first n -/
def allB (n : Nat) (P : Nat → Bool) : Bool := (List.range n).all P
theorem allB_true {n : Nat} {P : Nat → Bool} (h : ∀ j, j < n → P j = true) : allB n P = true := by
  rw [allB, List.all_eq_true]
  intro x hx
  exact h x (List.mem_range.1 hx)
theorem allB_false {n k : Nat} {P : Nat → Bool} (hk : k < n) (h : P k = false) : allB n P = false := by
  cases e : allB n P
  · rfl
  · rw [allB, List.all_eq_true] at e
    have := e k (List.mem_range.2 hk)
    rw [h] at this
    cases this
theorem allB_get {n k : Nat} {P : Nat → Bool} (h : allB n P = true) (hk : k < n) : P k = true := by
  rw [allB, List.all_eq_true] at h
  exact h k (List.mem_range.2 hk)
def dupB (n : Nat) (L C : Nat → Int) (l c : Int) : Bool := !(allB n fun i => !(L i == l && C i == c))
theorem dup_true {n : Nat} {L C : Nat → Int} {l c : Int} {k : Nat} (hk : k < n) (h : L k = l ∧ C k = c) : dupB n L C l c = true := by
  rw [dupB, allB_false hk (by simp [h.1, h.2])]
  rfl
theorem dup_false {n : Nat} {L C : Nat → Int} {l c : Int} (h : ∀ i, i < n → ¬ (L i = l ∧ C i = c)) : dupB n L C l c = false := by
  rw [dupB, allB_true (fun j hj => by
    have := h j hj
    by_cases e1 : L j = l
    · have e2 : ¬ C j = c := fun e2 => this ⟨e1, e2⟩
      simp [e2]
    · simp [e1])]
  rfl
theorem dup_of {n : Nat} {L C : Nat → Int} {l c : Int} (h : dupB n L C l c = false) : ∀ i, i < n → ¬ (L i = l ∧ C i = c) := by
  intro i hi he
  rw [dup_true hi he] at h
  cases h
theorem at1_dup {n : Nat} {L C : Nat → Int} {l c r : Int} (h : At1 n L C l c r) : decide (0 ≤ r) = dupB n L C l c := by
  rcases h with ⟨rfl, h⟩ | ⟨k, hk, rfl, he, _⟩
  · rw [dup_false h]; rfl
  · rw [dup_true hk he]
    simp
set_option maxHeartbeats 400000 in
theorem containsl_any (a : Option Addr) (n cap : Nat) (L C : Nat → Int) (l c : Int) (w : World) (hp : PolLabs w a n L C) :
    Calls Try.prog 52 #[.slice a n cap, .agg #[.int .i64 l, .int .u32 c]] w fun e w' => e = .returned (.bool (dupB n L C l c)) ∧ Below w.heap.size w w' := by
  have hB : Below w.heap.size w (w.alloc (.cells #[.int .i64 l, .int .u32 c] 89)) := by go_grown
  go_enter Try.func52, Try.ntmps52
  go_wp2_with fail
  refine (indexl_any a n cap L C l c _ (hp.call hB)).mono ?_
  rintro e w1 ⟨⟨r, rfl, hr⟩, hb1⟩
  have hd := at1_dup hr
  have HD := hide hd
  clear hd hr
  go_wp2
  go_ret
  exact ⟨by rw [← unhide HD]; rfl, hB.trans (hb1.mono hB.size)⟩
def Box3 (w : World) (v0 v1 v2 : Value) (w' : World) : Prop :=
  (w'.cell? ⟨w.heap.size, 0, none⟩ = some v0 ∧ w'.cell? ⟨w.heap.size, 1, none⟩ = some v1 ∧ w'.cell? ⟨w.heap.size, 2, none⟩ = some v2) ∧ w.heap.size < w'.heap.size ∧ Below w.heap.size w w'
def quotaB (a b c : Int) : Bool := withinB a 0 4096 && withinB b 0 4096 && withinB c 0 4096
set_option maxHeartbeats 400000 in
theorem quota_any (a b c : Int) (w : World) :
    Calls Try.prog 53 #[.agg #[.int .i64 a, .int .i64 b, .int .i64 c]] w fun e w' => e = .returned (.bool (quotaB a b c)) ∧ Below w.heap.size w w' := by
  cases h1 : withinB a 0 4096
  · go_enter Try.func53, Try.ntmps53
    go_wp2_with (go_at_call 50; refine (within_id _ _ _ _).mono ?_; rintro e w' ⟨rfl, rfl⟩)
    go_ret
    exact ⟨by simp [quotaB, h1], by go_grown⟩
  · cases h2 : withinB b 0 4096
    · go_enter Try.func53, Try.ntmps53
      go_wp2_with (go_at_call 50; refine (within_id _ _ _ _).mono ?_; rintro e w' ⟨rfl, rfl⟩)
      go_ret
      exact ⟨by simp [quotaB, h1, h2], by go_grown⟩
    · go_enter Try.func53, Try.ntmps53
      go_wp2_with (go_at_call 50; refine (within_id _ _ _ _).mono ?_; rintro e w' ⟨rfl, rfl⟩)
      go_ret
      exact ⟨by simp [quotaB, h1, h2], by go_grown⟩
def quotasB (n : Nat) (m : Int) (A B C : Nat → Int) : Bool := ((n : Int) == m) && allB n fun i => quotaB (A i) (B i) (C i)
set_option maxHeartbeats 1000000 in
theorem quotas_any (a : Option Addr) (n cap : Nat) (A B C : Nat → Int) (m : Int) (w : World) (hp : PolQuos w a n A B C) :
    Calls Try.prog 44 #[.slice a n cap, .int .i64 m] w fun e w' => e = .returned (.bool (quotasB n m A B C)) ∧ Below w.heap.size w w' := by
  have hn : (n : Int) ≤ 9223372036854775807 := by have := hp.1; unfold maxLen at this; omega
  by_cases hm : (n : Int) = m
  · subst hm
    have hne : ((n : Int) != (n : Int)) = false := by simp
    have hr : quotasB n (n : Int) A B C = allB n (fun i => quotaB (A i) (B i) (C i)) := by simp [quotasB]
    have HR := hide hr
    clear hr
    go_enter Try.func44, Try.ntmps44
    go_wp2_with fail
    go_loopw [13] (fun i wr => ∃ k : Nat, k ≤ n ∧ i = .int .i64 k ∧ (∀ j, j < k → quotaB (A j) (B j) (C j) = true) ∧ Below w.heap.size w wr) (fun i _ => n - (intOf i).toNat)
    case atStart => exact ⟨0, Nat.zero_le _, rfl, fun j hj => by omega, Below.refl _ _⟩
    case round =>
      obtain ⟨k, hk, rfl, hall, bel⟩ := hrel
      have HA := hide hall
      clear hall
      by_cases hlt : k < n
      · rcases hp.2.2 with h0 | ⟨b, off, rfl, hb, hrow⟩
        · omega
        have hc := (hrow.below bel hb) k hlt
        cases hq : quotaB (A k) (B k) (C k)
        · go_wp2_with (go_at_call 53; refine (quota_any _ _ _ _).mono ?_; rintro e w' ⟨rfl, hb1⟩)
          go_ret
          exact ⟨by rw [unhide HR, allB_false hlt hq]; rfl, (bel.alloc bel.size _).trans (hb1.mono (by have := bel.size; simp; omega))⟩
        · go_wp2_with (go_at_call 53; refine (quota_any _ _ _ _).mono ?_; rintro e w' ⟨rfl, hb1⟩)
          go_roundw
          case rel =>
            refine ⟨k + 1, by omega, by go_num, fun j hj => ?_, (bel.alloc bel.size _).trans (hb1.mono (by have := bel.size; simp; omega))⟩
            by_cases hjk : j = k
            · subst hjk; exact hq
            · exact unhide HA j (by omega)
          case measure => simp [intOf]; omega
      · have hkn : k = n := by omega
        subst hkn
        go_wp2
        go_ret
        exact ⟨by rw [unhide HR, allB_true (unhide HA)]; rfl, bel⟩
  · have hne : ((n : Int) != m) = true := by simpa using hm
    have hr : quotasB n m A B C = false := by simp [quotasB, hm]
    go_enter Try.func44, Try.ntmps44
    go_wp2_with fail
    go_ret
    exact ⟨by rw [hr]; rfl, Below.refl _ _⟩
def entryB (l : Int) (s : ByteArray) (m : Int) : Bool := withinB l 0 (m - 1) && withinB s.size 1 16
def entriesB (n : Nat) (E : Nat → Int) (S : Nat → ByteArray) (m : Int) : Bool := withinB n 1 8 && allB n fun i => entryB (E i) (S i) m
set_option maxHeartbeats 1000000 in
theorem entries_any (a : Option Addr) (n cap : Nat) (E : Nat → Int) (S : Nat → ByteArray) (D : Nat → Bool) (m : Int) (w : World) (hp : PolEnts w a n E S D) (m0 : 0 ≤ m) (m1 : m ≤ 9223372036854775807) :
    Calls Try.prog 45 #[.slice a n cap, .int .i64 m] w fun e w' => e = .returned (.bool (entriesB n E S m)) ∧ Below w.heap.size w w' := by
  have hn : (n : Int) ≤ 9223372036854775807 := by have := hp.1; unfold maxLen at this; omega
  cases hw : withinB n 1 8
  · have hr : entriesB n E S m = false := by simp [entriesB, hw]
    go_enter Try.func45, Try.ntmps45
    go_wp2_with (go_at_call 50; refine (within_id _ _ _ _).mono ?_; rintro e w' ⟨rfl, rfl⟩)
    go_ret
    exact ⟨by rw [hr]; rfl, Below.refl _ _⟩
  · have hr : entriesB n E S m = allB n (fun i => entryB (E i) (S i) m) := by simp [entriesB, hw]
    have HR := hide hr
    clear hr
    go_enter Try.func45, Try.ntmps45
    go_wp2_with (go_at_call 50; refine (within_id _ _ _ _).mono ?_; rintro e w' ⟨rfl, rfl⟩)
    go_loopw [13] (fun i wr => ∃ k : Nat, k ≤ n ∧ i = .int .i64 k ∧ (∀ j, j < k → entryB (E j) (S j) m = true) ∧ Below w.heap.size w wr) (fun i _ => n - (intOf i).toNat)
    case atStart => exact ⟨0, Nat.zero_le _, rfl, fun j hj => by omega, Below.refl _ _⟩
    case round =>
      obtain ⟨k, hk, rfl, hall, bel⟩ := hrel
      have HA := hide hall
      clear hall
      by_cases hlt : k < n
      · rcases hp.2.2 with h0 | ⟨b, off, rfl, hb, hrow⟩
        · omega
        have hc := (hrow.below bel hb) k hlt
        have hbel2 : ∀ o, Below w.heap.size w (wr.alloc o) := fun o => bel.alloc bel.size o
        have HB := hide hbel2
        clear hbel2
        cases hq1 : withinB (E k) 0 (m - 1)
        · have hq : entryB (E k) (S k) m = false := by simp [entryB, hq1]
          have HQ := hide hq
          clear hq
          go_wp2_with (go_at_call 50; refine (within_id _ _ _ _).mono ?_; rintro e w' ⟨rfl, rfl⟩)
          go_ret
          exact ⟨by rw [unhide HR, allB_false hlt (unhide HQ)]; rfl, unhide HB _⟩
        · cases hq2 : withinB ((S k).size : Int) 1 16
          · have hq : entryB (E k) (S k) m = false := by simp [entryB, hq1, hq2]
            have HQ := hide hq
            clear hq
            go_wp2_with (go_at_call 50; refine (within_id _ _ _ _).mono ?_; rintro e w' ⟨rfl, rfl⟩)
            go_ret
            exact ⟨by rw [unhide HR, allB_false hlt (unhide HQ)]; rfl, unhide HB _⟩
          · have hq : entryB (E k) (S k) m = true := by simp [entryB, hq1, hq2]
            have HQ := hide hq
            clear hq
            go_wp2_with (go_at_call 50; refine (within_id _ _ _ _).mono ?_; rintro e w' ⟨rfl, rfl⟩)
            go_roundw
            case rel =>
              refine ⟨k + 1, by omega, by go_num, fun j hj => ?_, unhide HB _⟩
              by_cases hjk : j = k
              · subst hjk; exact unhide HQ
              · exact unhide HA j (by omega)
            case measure => simp [intOf]; omega
      · have hkn : k = n := by omega
        subst hkn
        go_wp2
        go_ret
        exact ⟨by rw [unhide HR, allB_true (unhide HA)]; rfl, bel⟩
theorem PolLabs.front {w : World} {a : Option Addr} {n k : Nat} {L C : Nat → Int} (h : PolLabs w a n L C) (hk : k ≤ n) : PolLabs w a k L C := by
  obtain ⟨h1, h2, h3⟩ := h
  refine ⟨by omega, fun i hi => h2 i (by omega), ?_⟩
  rcases h3 with h3 | ⟨b, off, rfl, hlt, hr⟩
  · exact .inl (by omega)
  · exact .inr ⟨b, off, rfl, hlt, fun i hi => hr i (by omega)⟩
def labelB (L C : Nat → Int) (i : Nat) : Bool := (checkN (L i) == 0) && !dupB i L C (L i) (C i)
def labelsB (n : Nat) (L C : Nat → Int) : Bool := withinB n 1 32 && allB n (labelB L C)
set_option maxHeartbeats 1000000 in
theorem labels_any (a : Option Addr) (n cap : Nat) (L C : Nat → Int) (w : World) (hp : PolLabs w a n L C) (hcap : n ≤ cap) (hmax : cap ≤ maxLen) :
    Calls Try.prog 43 #[.slice a n cap] w fun e w' => e = .returned (.bool (labelsB n L C)) ∧ Below w.heap.size w w' := by
  unfold maxLen at hmax
  have hn : (n : Int) ≤ 9223372036854775807 := by omega
  cases hw : withinB n 1 32
  · have hr : labelsB n L C = false := by simp [labelsB, hw]
    go_enter Try.func43, Try.ntmps43
    go_wp2_with (go_at_call 50; refine (within_id _ _ _ _).mono ?_; rintro e w' ⟨rfl, rfl⟩)
    go_ret
    exact ⟨by rw [hr]; rfl, Below.refl _ _⟩
  · have hr : labelsB n L C = allB n (labelB L C) := by simp [labelsB, hw]
    have HR := hide hr
    clear hr
    go_enter Try.func43, Try.ntmps43
    go_wp2_with (go_at_call 50; refine (within_id _ _ _ _).mono ?_; rintro e w' ⟨rfl, rfl⟩)
    go_loopw [11] (fun i wr => ∃ k : Nat, k ≤ n ∧ i = .int .i64 k ∧ (∀ j, j < k → labelB L C j = true) ∧ Below w.heap.size w wr) (fun i _ => n - (intOf i).toNat)
    case atStart => exact ⟨0, Nat.zero_le _, rfl, fun j hj => by omega, Below.refl _ _⟩
    case round =>
      obtain ⟨k, hk, rfl, hall, bel⟩ := hrel
      have HA := hide hall
      clear hall
      by_cases hlt : k < n
      · rcases hp.2.2 with h0 | ⟨b, off, rfl, hb, hrow⟩
        · omega
        have hc := (hrow.below bel hb) k hlt
        have hpk : PolLabs wr (some ⟨b, off, none⟩) k L C := PolLabs.front (hp.call bel) hk
        have hst := B2.start wr (L k) (C k)
        have g0 : (0 : Int) ≤ (k : Int) := by omega
        have g1 : (k : Int) ≤ (cap : Int) := by omega
        have hfin : ∀ w1, Below wr.heap.size wr w1 → Below w.heap.size w w1 := fun w1 h => bel.trans (h.mono bel.size)
        have HFin := hide hfin
        clear hfin
        by_cases hck : checkN (L k) = 0
        · cases hd : dupB k L C (L k) (C k)
          · have hq : labelB L C k = true := by simp [labelB, hck, hd]
            have HQ := hide hq
            clear hq
            go_wp2_with fail
            generalize wr.alloc (Obj.cells #[Value.int IntKind.i64 (L k), Value.int IntKind.u32 (C k)] 89) = W0 at *
            have hst' := hst
            unfold B2 at hst'
            go_region_held3 (fun w' => (w'.cell? ⟨wr.heap.size, 0, none⟩ = some (.int .i64 (L k)) ∧ w'.cell? ⟨wr.heap.size, 1, none⟩ = some (.int .u32 (C k))) ∧ wr.heap.size < w'.heap.size ∧ Below wr.heap.size wr w')
              (first | exact B2.call (by assumption) (Below.refl _ _).drew | exact B2.call (by assumption) (by assumption))
              (first
                | (go_at_call 51; refine (check_any _ _ _).mono ?_; rintro e w' ⟨rfl, hb⟩; rw [hck])
                | (go_at_call 52; refine (containsl_any _ _ _ L C _ _ _ ?_).mono ?_; (exact hpk.call (B2.bel (l := L k) (c := C k) (by assumption))); rintro e w' ⟨rfl, hb⟩; rw [hd]))
            all_goals go_wp2
            all_goals go_roundw
            case rel =>
              have hS : B2 wr (L k) (C k) w' := by assumption
              refine ⟨k + 1, by omega, by go_num, fun j hj => ?_, unhide HFin _ hS.2.2⟩
              by_cases hjk : j = k
              · subst hjk; exact unhide HQ
              · exact unhide HA j (by omega)
            case measure => simp [intOf]; omega
          · have hq : labelB L C k = false := by simp [labelB, hd]
            have HQ := hide hq
            clear hq
            go_wp2_with fail
            generalize wr.alloc (Obj.cells #[Value.int IntKind.i64 (L k), Value.int IntKind.u32 (C k)] 89) = W0 at *
            have hst' := hst
            unfold B2 at hst'
            go_region_held3 (fun w' => (w'.cell? ⟨wr.heap.size, 0, none⟩ = some (.int .i64 (L k)) ∧ w'.cell? ⟨wr.heap.size, 1, none⟩ = some (.int .u32 (C k))) ∧ wr.heap.size < w'.heap.size ∧ Below wr.heap.size wr w')
              (first | exact B2.call (by assumption) (Below.refl _ _).drew | exact B2.call (by assumption) (by assumption))
              (first
                | (go_at_call 51; refine (check_any _ _ _).mono ?_; rintro e w' ⟨rfl, hb⟩; rw [hck])
                | (go_at_call 52; refine (containsl_any _ _ _ L C _ _ _ ?_).mono ?_; (exact hpk.call (B2.bel (l := L k) (c := C k) (by assumption))); rintro e w' ⟨rfl, hb⟩; rw [hd]))
            all_goals go_wp2
            all_goals go_ret
            have hS : B2 wr (L k) (C k) w' := by assumption
            exact ⟨by rw [unhide HR, allB_false hlt (unhide HQ)]; rfl, unhide HFin _ hS.2.2⟩
        · have hq : labelB L C k = false := by simp [labelB, hck]
          have HQ := hide hq
          clear hq
          have hck2 : checkN (L k) = 10 := by
            unfold checkN at hck ⊢
            split
            · rename_i h; exact absurd (if_pos h) hck
            · rfl
          clear hck
          go_wp2_with fail
          generalize wr.alloc (Obj.cells #[Value.int IntKind.i64 (L k), Value.int IntKind.u32 (C k)] 89) = W0 at *
          refine wp_region_held_drew (S := fun w' => (w'.cell? ⟨wr.heap.size, 0, none⟩ = some (.int .i64 (L k)) ∧ w'.cell? ⟨wr.heap.size, 1, none⟩ = some (.int .u32 (C k))) ∧ wr.heap.size < w'.heap.size ∧ Below wr.heap.size wr w') (by kernel_rfl) ?_ (fun hHeld => ?_)
          · exact B2.call hst (Below.refl _ _).drew
          refine wpAnyH_take (i := 0) (v := ?_) rfl (by kernel_rfl) (by kernel_rfl) (by kernel_rfl) (fun _ _ _ h => h) (Or.inl ⟨by rfl, ?_⟩) (by assumption) ?_
          rotate_left 1
          · (intro w hSw; (try dsimp only at hSw); go_simp) <;> (with_reducible rfl)
          try simp only [Act.put, List.getElem_toArray, List.getElem_cons_zero, List.getElem_cons_succ, List.setIfInBounds_toArray, List.set_cons_zero, List.set_cons_succ]
          refine wpAnyH_ready (rs := [1]) (by kernel_rfl) (by simp) ?_
          refine AllReadyH.cons rfl (fun K hK => ?_) AllReadyH.nil
          go_simp; (go_at_call 51; refine (check_any _ _ _).mono ?_; rintro e w' ⟨rfl, hb⟩; rw [hck2]); go_wp2_with fail
          refine hK.out _ _ ?_ (fun hHeld => ?_)
          · exact B2.call (by assumption) (by assumption)
          clear hK K
          try simp only [Act.put, List.getElem_toArray, List.getElem_cons_zero, List.getElem_cons_succ, List.setIfInBounds_toArray, List.set_cons_zero, List.set_cons_succ]
          refine wpAnyH_take (i := 2) (v := ?_) rfl (by kernel_rfl) (by kernel_rfl) (by kernel_rfl) (fun _ _ _ h => h) (Or.inl ⟨by rfl, ?_⟩) (by assumption) ?_
          rotate_left 1
          · (intro w hSw; (try dsimp only at hSw); go_simp) <;> (with_reducible rfl)
          try simp only [Act.put, List.getElem_toArray, List.getElem_cons_zero, List.getElem_cons_succ, List.setIfInBounds_toArray, List.set_cons_zero, List.set_cons_succ]
          refine wpAnyH_take (i := 3) (v := ?_) rfl (by kernel_rfl) (by kernel_rfl) (by kernel_rfl) (fun _ _ _ h => h) (Or.inl ⟨by rfl, ?_⟩) (by assumption) ?_
          rotate_left 1
          · (intro w hSw; (try dsimp only at hSw); go_simp) <;> (with_reducible rfl)
          try simp only [Act.put, List.getElem_toArray, List.getElem_cons_zero, List.getElem_cons_succ, List.setIfInBounds_toArray, List.set_cons_zero, List.set_cons_succ]
          refine wpAnyH_take (i := 4) (v := undef) rfl (by kernel_rfl) (by kernel_rfl) (by kernel_rfl) (fun _ _ _ h => h) (Or.inr ⟨by rfl, rfl⟩) (by assumption) ?_
          try simp only [Act.put, List.getElem_toArray, List.getElem_cons_zero, List.getElem_cons_succ, List.setIfInBounds_toArray, List.set_cons_zero, List.set_cons_succ]
          refine wpAnyH_take (i := 5) (v := undef) rfl (by kernel_rfl) (by kernel_rfl) (by kernel_rfl) (fun _ _ _ h => h) (Or.inr ⟨by rfl, rfl⟩) (by assumption) ?_
          try simp only [Act.put, List.getElem_toArray, List.getElem_cons_zero, List.getElem_cons_succ, List.setIfInBounds_toArray, List.set_cons_zero, List.set_cons_succ]
          refine wpAnyH_take (i := 6) (v := undef) rfl (by kernel_rfl) (by kernel_rfl) (by kernel_rfl) (fun _ _ _ h => h) (Or.inr ⟨by rfl, rfl⟩) (by assumption) ?_
          try simp only [Act.put, List.getElem_toArray, List.getElem_cons_zero, List.getElem_cons_succ, List.setIfInBounds_toArray, List.set_cons_zero, List.set_cons_succ]
          refine wpAnyH_take (i := 7) (v := undef) rfl (by kernel_rfl) (by kernel_rfl) (by kernel_rfl) (fun _ _ _ h => h) (Or.inr ⟨by rfl, rfl⟩) (by assumption) ?_
          try simp only [Act.put, List.getElem_toArray, List.getElem_cons_zero, List.getElem_cons_succ, List.setIfInBounds_toArray, List.set_cons_zero, List.set_cons_succ]
          refine wpAnyH_ready (rs := [8]) (by kernel_rfl) (by simp) ?_
          refine AllReadyH.cons rfl (fun K hK => ?_) AllReadyH.nil
          go_simp
          refine hK.out _ _ ?_ (fun hHeld => ?_)
          · assumption
          clear hK K
          try simp only [Act.put, List.getElem_toArray, List.getElem_cons_zero, List.getElem_cons_succ, List.setIfInBounds_toArray, List.set_cons_zero, List.set_cons_succ]
          refine wpAnyH_take (i := 9) (v := ?_) rfl (by kernel_rfl) (by kernel_rfl) (by kernel_rfl) (fun _ _ _ h => h) (Or.inl ⟨by rfl, ?_⟩) (by assumption) ?_
          rotate_left 1
          · (intro w hSw; (try dsimp only at hSw); go_simp) <;> (with_reducible rfl)
          try simp only [Act.put, List.getElem_toArray, List.getElem_cons_zero, List.getElem_cons_succ, List.setIfInBounds_toArray, List.set_cons_zero, List.set_cons_succ]
          refine wpAnyH_done (by kernel_rfl) ?_ _
          go_wp2_with fail
          go_ret
          have hS : B2 wr (L k) (C k) w' := by assumption
          exact ⟨by rw [unhide HR, allB_false hlt (unhide HQ)]; rfl, unhide HFin _ hS.2.2⟩
      · have hkn : k = n := by omega
        subst hkn
        go_wp2
        go_ret
        exact ⟨by rw [unhide HR, allB_true (unhide HA)]; rfl, bel⟩
def rightN (n0 n1 n2 : Nat) (L C Q1 Q2 Q3 E : Nat → Int) (S : Nat → ByteArray) : Int :=
  if labelsB n0 L C && quotasB n1 n0 Q1 Q2 Q3 && entriesB n2 E S n0 then 0 else 11
set_option maxHeartbeats 1000000 in
theorem right_any (a0 a1 a2 : Option Addr) (n0 n1 n2 c0 c1 c2 : Nat) (L C Q1 Q2 Q3 E : Nat → Int) (S : Nat → ByteArray) (D : Nat → Bool) (w : World)
    (pl : PolLabs w a0 n0 L C) (pq : PolQuos w a1 n1 Q1 Q2 Q3) (pe : PolEnts w a2 n2 E S D) (hc0 : n0 ≤ c0) (hm0 : c0 ≤ maxLen) :
    Calls Try.prog 29 #[.agg #[.slice a0 n0 c0, .slice a1 n1 c1, .slice a2 n2 c2]] w fun e w' => e = .returned (.int .i64 (rightN n0 n1 n2 L C Q1 Q2 Q3 E S)) ∧ Below w.heap.size w w' := by
  have hst := PB.start w (.slice a0 n0 c0) (.slice a1 n1 c1) (.slice a2 n2 c2)
  have hn : (n0 : Int) ≤ 9223372036854775807 := by have := pl.1; unfold maxLen at this; omega
  have hn' : (0 : Int) ≤ (n0 : Int) := by omega
  cases e0 : labelsB n0 L C
  · have hr : rightN n0 n1 n2 L C Q1 Q2 Q3 E S = 11 := by simp [rightN, e0]
    go_enter Try.func29, Try.ntmps29
    go_wp2_with (first
      | (go_at_call 43; refine (labels_any _ _ _ L C _ ?_ hc0 hm0).mono ?_; (exact pl.call (PB.bel (by assumption))); rintro e w' ⟨rfl, hb⟩; have hS := PB.call (by assumption) hb; have hF := hS.1; clear hb)
      | (go_at_call 44; refine (quotas_any _ _ _ Q1 Q2 Q3 _ _ ?_).mono ?_; (exact pq.call (PB.bel (by assumption))); rintro e w' ⟨rfl, hb⟩; have hS := PB.call (by assumption) hb; have hF := hS.1; clear hb)
      | (go_at_call 45; refine (entries_any _ _ _ E S D _ _ ?_ hn' hn).mono ?_; (exact pe.call (PB.bel (by assumption))); rintro e w' ⟨rfl, hb⟩; have hS := PB.call (by assumption) hb; have hF := hS.1; clear hb))
    go_ret
    exact ⟨by rw [hr]; rfl, hS.2.2⟩
  · cases e1 : quotasB n1 n0 Q1 Q2 Q3
    · have hr : rightN n0 n1 n2 L C Q1 Q2 Q3 E S = 11 := by simp [rightN, e1]
      go_enter Try.func29, Try.ntmps29
      go_wp2_with (first
      | (go_at_call 43; refine (labels_any _ _ _ L C _ ?_ hc0 hm0).mono ?_; (exact pl.call (PB.bel (by assumption))); rintro e w' ⟨rfl, hb⟩; have hS := PB.call (by assumption) hb; have hF := hS.1; clear hb)
      | (go_at_call 44; refine (quotas_any _ _ _ Q1 Q2 Q3 _ _ ?_).mono ?_; (exact pq.call (PB.bel (by assumption))); rintro e w' ⟨rfl, hb⟩; have hS := PB.call (by assumption) hb; have hF := hS.1; clear hb)
      | (go_at_call 45; refine (entries_any _ _ _ E S D _ _ ?_ hn' hn).mono ?_; (exact pe.call (PB.bel (by assumption))); rintro e w' ⟨rfl, hb⟩; have hS := PB.call (by assumption) hb; have hF := hS.1; clear hb))
      go_ret
      exact ⟨by rw [hr]; rfl, hS.2.2⟩
    · cases e2 : entriesB n2 E S n0
      · have hr : rightN n0 n1 n2 L C Q1 Q2 Q3 E S = 11 := by simp [rightN, e2]
        go_enter Try.func29, Try.ntmps29
        go_wp2_with (first
      | (go_at_call 43; refine (labels_any _ _ _ L C _ ?_ hc0 hm0).mono ?_; (exact pl.call (PB.bel (by assumption))); rintro e w' ⟨rfl, hb⟩; have hS := PB.call (by assumption) hb; have hF := hS.1; clear hb)
      | (go_at_call 44; refine (quotas_any _ _ _ Q1 Q2 Q3 _ _ ?_).mono ?_; (exact pq.call (PB.bel (by assumption))); rintro e w' ⟨rfl, hb⟩; have hS := PB.call (by assumption) hb; have hF := hS.1; clear hb)
      | (go_at_call 45; refine (entries_any _ _ _ E S D _ _ ?_ hn' hn).mono ?_; (exact pe.call (PB.bel (by assumption))); rintro e w' ⟨rfl, hb⟩; have hS := PB.call (by assumption) hb; have hF := hS.1; clear hb))
        go_ret
        exact ⟨by rw [hr]; rfl, hS.2.2⟩
      · have hr : rightN n0 n1 n2 L C Q1 Q2 Q3 E S = 0 := by simp [rightN, e0, e1, e2]
        go_enter Try.func29, Try.ntmps29
        go_wp2_with (first
      | (go_at_call 43; refine (labels_any _ _ _ L C _ ?_ hc0 hm0).mono ?_; (exact pl.call (PB.bel (by assumption))); rintro e w' ⟨rfl, hb⟩; have hS := PB.call (by assumption) hb; have hF := hS.1; clear hb)
      | (go_at_call 44; refine (quotas_any _ _ _ Q1 Q2 Q3 _ _ ?_).mono ?_; (exact pq.call (PB.bel (by assumption))); rintro e w' ⟨rfl, hb⟩; have hS := PB.call (by assumption) hb; have hF := hS.1; clear hb)
      | (go_at_call 45; refine (entries_any _ _ _ E S D _ _ ?_ hn' hn).mono ?_; (exact pe.call (PB.bel (by assumption))); rintro e w' ⟨rfl, hb⟩; have hS := PB.call (by assumption) hb; have hF := hS.1; clear hb))
        go_ret
        exact ⟨by rw [hr]; rfl, hS.2.2⟩
end Go.Proofs.Ythgacmlbmcehmaa
