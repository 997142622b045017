/- How a policy comes in: three lists, each nil or a row of cells. -/
import Derived.Test.YtbahnkomdndmkabSees
import Derived.Deep.SlicePairs
namespace Go.Proofs.Ytbahnkomdndmkab
open Go.ChangeShapes Go.WideShapes Go.ChangeAt Go.RowKit Go.Joins Go.Deep
set_option linter.unusedVariables false

def QuoRow (w : World) (b off n : Nat) (A B C : Nat → Int) : Prop :=
  ∀ i, i < n → w.cell? ⟨b, off + i * 3, none⟩ = some (.int .i64 (A i)) ∧ w.cell? ⟨b, off + i * 3 + 1, none⟩ = some (.int .i64 (B i)) ∧ w.cell? ⟨b, off + i * 3 + 2, none⟩ = some (.int .i64 (C i))
def EntRow (w : World) (b off n : Nat) (A : Nat → Int) (S : Nat → ByteArray) (D : Nat → Bool) : Prop :=
  ∀ i, i < n → w.cell? ⟨b, off + i * 3, none⟩ = some (.int .i64 (A i)) ∧ w.cell? ⟨b, off + i * 3 + 1, none⟩ = some (.string (S i)) ∧ w.cell? ⟨b, off + i * 3 + 2, none⟩ = some (.bool (D i))
def I64 (n : Int) : Prop := -9223372036854775808 ≤ n ∧ n ≤ 9223372036854775807
def PolQuos (w : World) (a : Option Addr) (n : Nat) (A B C : Nat → Int) : Prop :=
  n ≤ maxLen ∧ (∀ i, i < n → I64 (A i) ∧ I64 (B i) ∧ I64 (C i)) ∧ (n = 0 ∨ ∃ b off, a = some ⟨b, off, none⟩ ∧ b < w.heap.size ∧ QuoRow w b off n A B C)
def PolEnts (w : World) (a : Option Addr) (n : Nat) (A : Nat → Int) (S : Nat → ByteArray) (D : Nat → Bool) : Prop :=
  n ≤ maxLen ∧ (∀ i, i < n → I64 (A i) ∧ (S i).size ≤ maxLen) ∧ (n = 0 ∨ ∃ b off, a = some ⟨b, off, none⟩ ∧ b < w.heap.size ∧ EntRow w b off n A S D)
theorem QuoRow.below {w w' : World} {B0 b off n : Nat} {A B C : Nat → Int} (h : QuoRow w b off n A B C) (hb : Below B0 w w') (hB : b < B0) : QuoRow w' b off n A B C := by
  intro i hi
  have := h i hi
  rw [hb.cell (p := ⟨b, _, none⟩) hB, hb.cell (p := ⟨b, _, none⟩) hB, hb.cell (p := ⟨b, _, none⟩) hB]
  exact this
theorem EntRow.below {w w' : World} {B0 b off n : Nat} {A : Nat → Int} {S : Nat → ByteArray} {D : Nat → Bool} (h : EntRow w b off n A S D) (hb : Below B0 w w') (hB : b < B0) : EntRow w' b off n A S D := by
  intro i hi
  have := h i hi
  rw [hb.cell (p := ⟨b, _, none⟩) hB, hb.cell (p := ⟨b, _, none⟩) hB, hb.cell (p := ⟨b, _, none⟩) hB]
  exact this
theorem PolQuos.call {w w1 : World} {a : Option Addr} {n : Nat} {A B C : Nat → Int} (h : PolQuos w a n A B C) (hb : Below w.heap.size w w1) : PolQuos w1 a n A B C := by
  obtain ⟨h1, h2, h3⟩ := h
  refine ⟨h1, h2, ?_⟩
  rcases h3 with h3 | ⟨b, off, rfl, hlt, hr⟩
  · exact .inl h3
  · exact .inr ⟨b, off, rfl, Nat.lt_of_lt_of_le hlt hb.size, hr.below hb hlt⟩
theorem PolEnts.call {w w1 : World} {a : Option Addr} {n : Nat} {A : Nat → Int} {S : Nat → ByteArray} {D : Nat → Bool} (h : PolEnts w a n A S D) (hb : Below w.heap.size w w1) : PolEnts w1 a n A S D := by
  obtain ⟨h1, h2, h3⟩ := h
  refine ⟨h1, h2, ?_⟩
  rcases h3 with h3 | ⟨b, off, rfl, hlt, hr⟩
  · exact .inl h3
  · exact .inr ⟨b, off, rfl, Nat.lt_of_lt_of_le hlt hb.size, hr.below hb hlt⟩

theorem lt_of_cell {w : World} {a : Addr} {v : Value} (h : w.cell? a = some v) : a.block < w.heap.size := by
  by_cases hlt : a.block < w.heap.size
  · exact hlt
  · exfalso
    obtain ⟨b, o, s⟩ := a
    simp [World.cell?, Array.getElem?_eq_none (Nat.le_of_not_lt hlt)] at h

theorem add_plain (b off : Nat) (k : Nat) : (⟨b, off, none⟩ : Addr).add k = ⟨b, off + k, none⟩ := by simp [Addr.add]

/-- a slice of three one-cell fields, each element's cells -/
theorem open_triples {H : Type} {enc : TypeId × Value → H} {P : Program} {w : World} {base : Nat} {spare : Nat → Bool} {held : Bool} {t e : TypeId} {f0 f1 f2 : Field} {fuel : Nat} {cs : List Value} {x : DataW H × List MemPlace}
    (ht : P.underlying t = some (.slice e)) (he : P.underlying e = some (.struct #[f0, f1, f2]))
    (ce : P.cellsOf e = 3) (o0 : f0.offset = 0) (o1 : f1.offset = 1) (o2 : f2.offset = 2) (c0 : P.cellsOf f0.type = 1) (c1 : P.cellsOf f1.type = 1) (c2 : P.cellsOf f2.type = 1)
    (h : DataW.trod enc P w base spare held fuel t cs = some x) :
    cs = [.slice none 0 0] ∨ ∃ (a : Addr) (len cap : Nat), cs = [.slice (some a) len cap] ∧ len ≤ cap ∧ cap ≤ maxLen ∧
      ∀ i, i < len → ∃ (v0 v1 v2 : Value) (y0 y1 y2 : DataW H × List MemPlace) (n : Nat), w.cell? (a.add (i * 3)) = some v0 ∧ w.cell? (a.add (i * 3 + 1)) = some v1 ∧ w.cell? (a.add (i * 3 + 2)) = some v2 ∧
        DataW.trod enc P w base spare held n f0.type [v0] = some y0 ∧ DataW.trod enc P w base spare held n f1.type [v1] = some y1 ∧ DataW.trod enc P w base spare held n f2.type [v2] = some y2 := by
  rcases open_slice ht h with h0 | ⟨a, len, cap, m, n, D, Pl, rfl, hb, hl, hm, hmm, rfl, hx⟩
  · exact Or.inl h0.1
  right
  have hlm : len ≤ m := by rw [hmm]; split <;> omega
  refine ⟨a, len, cap, rfl, hl, hm, fun i hi => ?_⟩
  obtain ⟨cs', h1, h2⟩ := hx i (by omega)
  rw [ce] at h1
  obtain ⟨_, hlen, hcell⟩ := World.cells?_some h1
  obtain ⟨xs, k, hk, hxy, _, hxl, hf⟩ := DataW.trod_struct he h2
  match xs, hxl, cs', hlen with
  | [y0, y1, y2], _, [v0, v1, v2], _ =>
    have g0 := hf 0 f0 rfl
    have g1 := hf 1 f1 rfl
    have g2 := hf 2 f2 rfl
    simp [o0, o1, o2, c0, c1, c2] at g0 g1 g2
    have e0 := hcell 0 (by omega)
    have e1 := hcell 1 (by omega)
    have e2 := hcell 2 (by omega)
    rw [add_add] at e0 e1 e2
    exact ⟨v0, v1, v2, y0, y1, y2, k, by simpa using e0, by simpa using e1, by simpa using e2, g0, g1, g2⟩

theorem cells34 : Try.prog.cellsOf 34 = 3 := by kernel_rfl

theorem open_policy {H : Type} {enc : TypeId × Value → H} {W : World} {b0 base : Nat} {spare : Nat → Bool} {held : Bool} {v : Value} {d : DataW H} {p : List MemPlace}
    (hv : Value.okWide Try.prog W .any b0 34 v) (h : DataW.Trod enc Try.prog W base spare held 34 v d p) :
    ∃ (a0 a1 a2 : Option Addr) (n0 n1 n2 c0 c1 c2 : Nat) (L C Q1 Q2 Q3 E : Nat → Int) (S : Nat → ByteArray) (D : Nat → Bool),
      v = .agg #[.slice a0 n0 c0, .slice a1 n1 c1, .slice a2 n2 c2] ∧ PolLabs W a0 n0 L C ∧ PolQuos W a1 n1 Q1 Q2 Q3 ∧ PolEnts W a2 n2 E S D ∧ n0 ≤ c0 ∧ n1 ≤ c1 ∧ n2 ≤ c2 ∧ c0 ≤ maxLen ∧ c1 ≤ maxLen ∧ c2 ≤ maxLen ∧ (∀ i, i < n0 → I64 (L i)) := by
  obtain ⟨u0, u1, u2, y0, y1, y2, m, rfl, _, _, hy0, hy1, hy2⟩ := open_agg3 Try.underlying34 (by kernel_rfl) cells34 hv h
  have H0 : ∃ (a : Option Addr) (n c : Nat) (L C : Nat → Int), u0 = .slice a n c ∧ PolLabs W a n L C ∧ n ≤ c ∧ c ≤ maxLen ∧ (∀ i, i < n → I64 (L i)) := by
    rcases open_slice_pairs Try.underlying30 Try.underlying24 (by kernel_rfl) rfl rfl (by kernel_rfl) (by kernel_rfl) hy0 with ⟨hcs, _⟩ | ⟨a, len, cap, k, n, V0, V1, D0, D1, P0, P1, hcs, _, hl, hm, hk, _, hx⟩
    · simp at hcs
      subst hcs
      exact ⟨none, 0, 0, fun _ => 0, fun _ => 0, rfl, ⟨Nat.zero_le _, fun i hi => by omega, .inl rfl⟩, Nat.le_refl _, Nat.zero_le _, fun i hi => by omega⟩
    · simp at hcs
      subst hcs
      have hlk : len ≤ k := by rw [hk]; split <;> omega
      have each : ∀ i, i < len → ∃ q : Int × Int, W.cell? (a.add (i * 2)) = some (.int .i64 q.1) ∧ W.cell? (a.add (i * 2 + 1)) = some (.int .u32 q.2) ∧ I64 q.1 ∧ U32 q.2 := by
        intro i hi
        obtain ⟨h0, h1, t0, t1⟩ := hx i (by omega)
        obtain ⟨l, e0, _, wl⟩ := DataW.trod_int Try.underlying3 t0
        obtain ⟨c, e1, _, wc⟩ := DataW.trod_int Try.underlying22 t1
        simp at e0 e1
        rw [e0] at h0
        rw [e1] at h1
        have := bounds_u32 wc
        exact ⟨(l, c), h0, h1, bounds_i64 wl, by constructor <;> simp <;> omega⟩
      obtain ⟨q, hq⟩ := choose_lt each
      refine ⟨some a, len, cap, fun i => (q i).1, fun i => (q i).2, rfl, ⟨by omega, fun i hi => (hq i hi).2.2.2, ?_⟩, hl, hm, fun i hi => (hq i hi).2.2.1⟩
      by_cases hz : len = 0
      · exact .inl hz
      · obtain ⟨b, off, spot⟩ := a
        have h0 := (hq 0 (by omega)).1
        have hspot : spot = none := by simpa [Addr.add] using World.cell?_spot h0
        subst hspot
        refine .inr ⟨b, off, rfl, lt_of_cell h0, fun i hi => ?_⟩
        have := hq i hi
        rw [add_plain, add_plain] at this
        exact ⟨this.1, this.2.1⟩
  have H1 : ∃ (a : Option Addr) (n c : Nat) (A B C : Nat → Int), u1 = .slice a n c ∧ PolQuos W a n A B C ∧ n ≤ c ∧ c ≤ maxLen := by
    rcases open_triples Try.underlying31 Try.underlying44 (by kernel_rfl) rfl rfl rfl (by kernel_rfl) (by kernel_rfl) (by kernel_rfl) hy1 with hcs | ⟨a, len, cap, hcs, hl, hm, hx⟩
    · simp at hcs
      subst hcs
      exact ⟨none, 0, 0, fun _ => 0, fun _ => 0, fun _ => 0, rfl, ⟨Nat.zero_le _, fun i hi => by omega, .inl rfl⟩, Nat.le_refl _, Nat.zero_le _⟩
    · simp at hcs
      subst hcs
      have each : ∀ i, i < len → ∃ q : Int × Int × Int, W.cell? (a.add (i * 3)) = some (.int .i64 q.1) ∧ W.cell? (a.add (i * 3 + 1)) = some (.int .i64 q.2.1) ∧ W.cell? (a.add (i * 3 + 2)) = some (.int .i64 q.2.2) ∧ I64 q.1 ∧ I64 q.2.1 ∧ I64 q.2.2 := by
        intro i hi
        obtain ⟨v0, v1, v2, z0, z1, z2, n, h0, h1, h2, t0, t1, t2⟩ := hx i hi
        obtain ⟨l, e0, _, wl⟩ := DataW.trod_int Try.underlying3 t0
        obtain ⟨c, e1, _, wc⟩ := DataW.trod_int Try.underlying3 t1
        obtain ⟨r, e2, _, wr⟩ := DataW.trod_int Try.underlying3 t2
        simp at e0 e1 e2
        rw [e0] at h0
        rw [e1] at h1
        rw [e2] at h2
        exact ⟨(l, c, r), h0, h1, h2, bounds_i64 wl, bounds_i64 wc, bounds_i64 wr⟩
      obtain ⟨q, hq⟩ := choose_lt each
      refine ⟨some a, len, cap, fun i => (q i).1, fun i => (q i).2.1, fun i => (q i).2.2, rfl, ⟨by omega, fun i hi => (hq i hi).2.2.2, ?_⟩, hl, hm⟩
      by_cases hz : len = 0
      · exact .inl hz
      · obtain ⟨b, off, spot⟩ := a
        have h0 := (hq 0 (by omega)).1
        have hspot : spot = none := by simpa [Addr.add] using World.cell?_spot h0
        subst hspot
        refine .inr ⟨b, off, rfl, lt_of_cell h0, fun i hi => ?_⟩
        have := hq i hi
        rw [add_plain, add_plain, add_plain] at this
        exact ⟨this.1, this.2.1, this.2.2.1⟩
  have H2 : ∃ (a : Option Addr) (n c : Nat) (A : Nat → Int) (S : Nat → ByteArray) (D : Nat → Bool), u2 = .slice a n c ∧ PolEnts W a n A S D ∧ n ≤ c ∧ c ≤ maxLen := by
    rcases open_triples Try.underlying32 Try.underlying47 (by kernel_rfl) rfl rfl rfl (by kernel_rfl) (by kernel_rfl) (by kernel_rfl) hy2 with hcs | ⟨a, len, cap, hcs, hl, hm, hx⟩
    · simp at hcs
      subst hcs
      exact ⟨none, 0, 0, fun _ => 0, fun _ => ByteArray.empty, fun _ => false, rfl, ⟨Nat.zero_le _, fun i hi => by omega, .inl rfl⟩, Nat.le_refl _, Nat.zero_le _⟩
    · simp at hcs
      subst hcs
      have each : ∀ i, i < len → ∃ q : Int × ByteArray × Bool, W.cell? (a.add (i * 3)) = some (.int .i64 q.1) ∧ W.cell? (a.add (i * 3 + 1)) = some (.string q.2.1) ∧ W.cell? (a.add (i * 3 + 2)) = some (.bool q.2.2) ∧ I64 q.1 ∧ q.2.1.size ≤ maxLen := by
        intro i hi
        obtain ⟨v0, v1, v2, z0, z1, z2, n, h0, h1, h2, t0, t1, t2⟩ := hx i hi
        obtain ⟨l, e0, _, wl⟩ := DataW.trod_int Try.underlying3 t0
        obtain ⟨c, e1, _, wc⟩ := DataW.trod_string Try.underlying9 t1
        obtain ⟨r, e2, _⟩ := DataW.trod_bool Try.underlying4 t2
        simp at e0 e1 e2
        rw [e0] at h0
        rw [e1] at h1
        rw [e2] at h2
        exact ⟨(l, c, r), h0, h1, h2, bounds_i64 wl, wc⟩
      obtain ⟨q, hq⟩ := choose_lt each
      refine ⟨some a, len, cap, fun i => (q i).1, fun i => (q i).2.1, fun i => (q i).2.2, rfl, ⟨by omega, fun i hi => ⟨(hq i hi).2.2.2.1, (hq i hi).2.2.2.2⟩, ?_⟩, hl, hm⟩
      by_cases hz : len = 0
      · exact .inl hz
      · obtain ⟨b, off, spot⟩ := a
        have h0 := (hq 0 (by omega)).1
        have hspot : spot = none := by simpa [Addr.add] using World.cell?_spot h0
        subst hspot
        refine .inr ⟨b, off, rfl, lt_of_cell h0, fun i hi => ?_⟩
        have := hq i hi
        rw [add_plain, add_plain, add_plain] at this
        exact ⟨this.1, this.2.1, this.2.2.1⟩
  obtain ⟨a0, n0, c0, L, C, rfl, p0, l0, m0, i0⟩ := H0
  obtain ⟨a1, n1, c1, Q1, Q2, Q3, rfl, p1, l1, m1⟩ := H1
  obtain ⟨a2, n2, c2, E, S, D, rfl, p2, l2, m2⟩ := H2
  exact ⟨a0, a1, a2, n0, n1, n2, c0, c1, c2, L, C, Q1, Q2, Q3, E, S, D, rfl, p0, p1, p2, l0, l1, l2, m0, m1, m2, i0⟩
end Go.Proofs.Ytbahnkomdndmkab
