/- How calls come in: a list of them. -/
import Derived.Test.YtadjgljimikodaaDoes
import Derived.Deep.SlicePairs
import Derived.ChangeSlices
namespace Go.Proofs.Ytadjgljimikodaa
set_option linter.unusedVariables false
set_option linter.unusedSimpArgs false
open Go.ChangeShapes Go.WideShapes Go.ChangeAt Go.RowKit Go.Joins Go.Deep

structure Cl where
  op : Int
  file : Int
  n : Int
  v : Value
  b : List Nat
structure ClOk (w : World) (c : Cl) : Prop where
  byt : Byt w c.v c.b
  n : c.n ≤ 9223372036854775807
  b256 : ∀ y ∈ c.b, y < 256
def ClAt (w : World) (b off : Nat) (c : Cl) : Prop :=
  w.cell? ⟨b, off, none⟩ = some (.int .i64 c.op) ∧ w.cell? ⟨b, off + 1, none⟩ = some (.int .i64 c.file) ∧ w.cell? ⟨b, off + 2, none⟩ = some (.int .i64 c.n) ∧ w.cell? ⟨b, off + 3, none⟩ = some c.v
def Dos (w : World) (a : Option Addr) (L : List Cl) : Prop :=
  (∀ c ∈ L, ClOk w c) ∧ (L = [] ∨ ∃ b off, a = some ⟨b, off, none⟩ ∧ b < w.heap.size ∧ ∀ i c, L[i]? = some c → ClAt w b (off + i * 4) c)
theorem ClOk.call {w w1 : World} {c : Cl} (h : ClOk w c) (hb : Below w.heap.size w w1) : ClOk w1 c := ⟨h.byt.call hb, h.n, h.b256⟩
theorem Dos.call {w w1 : World} {a : Option Addr} {L : List Cl} (h : Dos w a L) (hb : Below w.heap.size w w1) : Dos w1 a L := by
  obtain ⟨h1, h2⟩ := h
  refine ⟨fun c hc => (h1 c hc).call hb, ?_⟩
  rcases h2 with h2 | ⟨b, off, rfl, hlt, h3⟩
  · exact .inl h2
  · refine .inr ⟨b, off, rfl, Nat.lt_of_lt_of_le hlt hb.size, fun i c hc => ?_⟩
    obtain ⟨q0, q1, q2, q3⟩ := h3 i c hc
    exact ⟨cell_keep hb hlt q0, cell_keep hb hlt q1, cell_keep hb hlt q2, cell_keep hb hlt q3⟩
theorem byt_far {w : World} {v : Value} {l : List Nat} {g : Nat} (h : Byt w v l) (hg : w.heap.size ≤ g) (hl : 0 < l.length) : ∀ k, v.ownBlock = some k → k ≠ g := by
  rcases h with ⟨_, rfl⟩ | ⟨a, cap, rfl, _, _, h3⟩
  · cases hl
  · intro k hk
    simp [Value.ownBlock] at hk
    have := lt_of_cell (h3 0 _ (List.getElem?_eq_getElem hl))
    rw [add_block] at this
    omega

theorem cells5 : Try.prog.cellsOf 5 = 1 := by kernel_rfl
theorem bytes_of {H : Type} {enc : TypeId × Value → H} {W : World} {base fuel : Nat} {spare : Nat → Bool} {held : Bool} {v : Value} {x : DataW H × List MemPlace}
    (hf : DataW.trod enc Try.prog W base spare held fuel 32 [v] = some x) : ∃ l : List Nat, Byt W v l ∧ ∀ y ∈ l, y < 256 := by
  rcases open_ints Try.underlying32 Try.underlying5 cells5 hf with ⟨hcs, _⟩ | ⟨a, n, cap, zs, hcs, _, hl, hm, hz, _, hc, hw⟩
  · simp at hcs
    subst hcs
    exact ⟨[], .inl ⟨rfl, rfl⟩, fun y hy => by cases hy⟩
  · simp at hcs
    subst hcs
    have hlz : n ≤ zs.length := by rw [hz]; split <;> omega
    have hb : ∀ z ∈ zs, 0 ≤ z ∧ z < 256 := fun z hz' => by
      have := bounds_u8 (hw z hz')
      omega
    refine ⟨(zs.take n).map Int.toNat, .inr ⟨a, cap, by simp [Nat.min_eq_left hlz], by simp [Nat.min_eq_left hlz]; exact hl, hm, fun i y hy => ?_⟩, fun y hy => ?_⟩
    · rw [List.getElem?_map] at hy
      obtain ⟨z, hz1, rfl⟩ := Option.map_eq_some_iff.1 hy
      have hi : i < n := by
        by_cases hi : i < n
        · exact hi
        · rw [List.getElem?_eq_none (by rw [List.length_take]; omega)] at hz1; cases hz1
      rw [List.getElem?_take_of_lt hi] at hz1
      rw [hc i (by omega), List.getD_eq_getElem?_getD, hz1]
      have := hb z (List.mem_of_getElem? hz1)
      simp
      omega
    · obtain ⟨z, hz1, rfl⟩ := List.mem_map.1 hy
      have := hb z (List.mem_of_mem_take hz1)
      omega
theorem open_bytes {H : Type} {enc : TypeId × Value → H} {W : World} {b0 base : Nat} {spare : Nat → Bool} {held : Bool} {v : Value} {d : DataW H} {p : List MemPlace}
    (hv : Value.okWide Try.prog W .any b0 32 v) (h : DataW.Trod enc Try.prog W base spare held 32 v d p) : ∃ l : List Nat, Byt W v l ∧ ∀ y ∈ l, y < 256 := by
  obtain ⟨a, n, c, rfl⟩ := okWide_slice Try.underlying32 hv
  obtain ⟨fuel, hf⟩ := h
  exact bytes_of hf
theorem open_i64 {H : Type} {enc : TypeId × Value → H} {W : World} {b0 base : Nat} {spare : Nat → Bool} {held : Bool} {v : Value} {d : DataW H} {p : List MemPlace}
    (hv : Value.okWide Try.prog W .any b0 3 v) (h : DataW.Trod enc Try.prog W base spare held 3 v d p) : ∃ n : Int, v = .int .i64 n ∧ -9223372036854775808 ≤ n ∧ n ≤ 9223372036854775807 := by
  obtain ⟨n, rfl, _, _, wn⟩ := open_int Try.underlying3 hv h
  exact ⟨n, rfl, bounds_i64 wn⟩

/-- a slice of structs of four one-cell fields, each element's cells -/
theorem open_fours {H : Type} {enc : TypeId × Value → H} {P : Program} {w : World} {base : Nat} {spare : Nat → Bool} {held : Bool} {t e : TypeId} {f0 f1 f2 f3 : Field} {fuel : Nat} {cs : List Value} {x : DataW H × List MemPlace}
    (ht : P.underlying t = some (.slice e)) (he : P.underlying e = some (.struct #[f0, f1, f2, f3]))
    (ce : P.cellsOf e = 4) (o0 : f0.offset = 0) (o1 : f1.offset = 1) (o2 : f2.offset = 2) (o3 : f3.offset = 3) (c0 : P.cellsOf f0.type = 1) (c1 : P.cellsOf f1.type = 1) (c2 : P.cellsOf f2.type = 1) (c3 : P.cellsOf f3.type = 1)
    (h : DataW.trod enc P w base spare held fuel t cs = some x) :
    cs = [.slice none 0 0] ∨ ∃ (a : Addr) (len cap : Nat), cs = [.slice (some a) len cap] ∧ len ≤ cap ∧ cap ≤ maxLen ∧
      ∀ i, i < len → ∃ (v0 v1 v2 v3 : Value) (y0 y1 y2 y3 : DataW H × List MemPlace) (n : Nat), w.cell? (a.add (i * 4)) = some v0 ∧ w.cell? (a.add (i * 4 + 1)) = some v1 ∧ w.cell? (a.add (i * 4 + 2)) = some v2 ∧ w.cell? (a.add (i * 4 + 3)) = some v3 ∧
        DataW.trod enc P w base spare held n f0.type [v0] = some y0 ∧ DataW.trod enc P w base spare held n f1.type [v1] = some y1 ∧ DataW.trod enc P w base spare held n f2.type [v2] = some y2 ∧ DataW.trod enc P w base spare held n f3.type [v3] = some y3 := by
  rcases open_slice ht h with h0 | ⟨a, len, cap, m, n, D, Pl, rfl, hb, hl, hm, hmm, rfl, hx⟩
  · exact Or.inl h0.1
  right
  have hlm : len ≤ m := by rw [hmm]; split <;> omega
  refine ⟨a, len, cap, rfl, hl, hm, fun i hi => ?_⟩
  obtain ⟨cs', h1, h2⟩ := hx i (by omega)
  rw [ce] at h1
  obtain ⟨_, hlen, hcell⟩ := World.cells?_some h1
  obtain ⟨xs, k, hk, hxy, _, hxl, hf⟩ := DataW.trod_struct he h2
  match xs, hxl, cs', hlen with
  | [y0, y1, y2, y3], _, [v0, v1, v2, v3], _ =>
    have g0 := hf 0 f0 rfl
    have g1 := hf 1 f1 rfl
    have g2 := hf 2 f2 rfl
    have g3 := hf 3 f3 rfl
    simp [o0, o1, o2, o3, c0, c1, c2, c3] at g0 g1 g2 g3
    have e0 := hcell 0 (by omega)
    have e1 := hcell 1 (by omega)
    have e2 := hcell 2 (by omega)
    have e3 := hcell 3 (by omega)
    rw [add_add] at e0 e1 e2 e3
    exact ⟨v0, v1, v2, v3, y0, y1, y2, y3, k, by simpa using e0, by simpa using e1, by simpa using e2, by simpa using e3, g0, g1, g2, g3⟩

theorem list_of {α : Type} {n : Nat} {p : Nat → α → Prop} (h : ∀ i, i < n → ∃ c, p i c) : ∃ L : List α, L.length = n ∧ ∀ i c, L[i]? = some c → p i c := by
  induction n with
  | zero => exact ⟨[], rfl, fun i c hc => by simp at hc⟩
  | succ n ih =>
    obtain ⟨L, hL, hp⟩ := ih (fun i hi => h i (by omega))
    obtain ⟨c, hc⟩ := h n (by omega)
    refine ⟨L ++ [c], by simp [hL], fun i c' hc' => ?_⟩
    rw [List.getElem?_append] at hc'
    split at hc'
    · exact hp i c' hc'
    · have hi : i = n := by
        by_cases hi : i - L.length = 0
        · omega
        · obtain ⟨q, hq⟩ := Nat.exists_eq_succ_of_ne_zero hi
          rw [hq] at hc'; simp at hc'
      subst hi
      rw [hL, Nat.sub_self] at hc'
      simp at hc'
      subst hc'
      exact hc

theorem open_dos {H : Type} {enc : TypeId × Value → H} {W : World} {b0 base : Nat} {spare : Nat → Bool} {held : Bool} {v : Value} {d : DataW H} {p : List MemPlace}
    (hv : Value.okWide Try.prog W .any b0 22 v) (h : DataW.Trod enc Try.prog W base spare held 22 v d p) :
    ∃ (a : Option Addr) (L : List Cl) (cap : Nat), v = .slice a L.length cap ∧ L.length ≤ cap ∧ cap ≤ maxLen ∧ Dos W a L := by
  obtain ⟨a, n, c, rfl⟩ := okWide_slice Try.underlying22 hv
  obtain ⟨fuel, hf⟩ := h
  rcases open_fours Try.underlying22 Try.underlying34 (by kernel_rfl) rfl rfl rfl rfl (by kernel_rfl) (by kernel_rfl) (by kernel_rfl) (by kernel_rfl) hf with hcs | ⟨a, len, cap, hcs, hl, hm, hx⟩
  · simp [Value.cells] at hcs
    obtain ⟨rfl, rfl, rfl⟩ := hcs
    exact ⟨none, [], 0, rfl, Nat.le_refl _, Nat.zero_le _, ⟨fun c hc => (List.not_mem_nil hc).elim, Or.inl rfl⟩⟩
  · simp [Value.cells] at hcs
    obtain ⟨rfl, rfl, rfl⟩ := hcs
    have each : ∀ i, i < n → ∃ q : Cl, ClOk W q ∧ W.cell? (a.add (i * 4)) = some (.int .i64 q.op) ∧ W.cell? (a.add (i * 4 + 1)) = some (.int .i64 q.file) ∧ W.cell? (a.add (i * 4 + 2)) = some (.int .i64 q.n) ∧ W.cell? (a.add (i * 4 + 3)) = some q.v := by
      intro i hi
      obtain ⟨v0, v1, v2, v3, z0, z1, z2, z3, m, h0, h1, h2, h3, t0, t1, t2, t3⟩ := hx i hi
      obtain ⟨x0, e0, _, w0⟩ := DataW.trod_int Try.underlying3 t0
      obtain ⟨x1, e1, _, w1⟩ := DataW.trod_int Try.underlying3 t1
      obtain ⟨x2, e2, _, w2⟩ := DataW.trod_int Try.underlying3 t2
      obtain ⟨l, hbyt, h256⟩ := bytes_of t3
      simp at e0 e1 e2
      subst e0 e1 e2
      exact ⟨⟨x0, x1, x2, v3, l⟩, ⟨hbyt, (bounds_i64 w2).2, h256⟩, h0, h1, h2, h3⟩
    obtain ⟨L, hL, hp⟩ := list_of each
    refine ⟨some a, L, c, by rw [hL], by rw [hL]; exact hl, hm, ?_, ?_⟩
    · intro q hq
      obtain ⟨i, hi⟩ := List.getElem?_of_mem hq
      exact (hp i q hi).1
    · by_cases hz : L = []
      · exact .inl hz
      · right
        have hpos : 0 < L.length := List.length_pos_iff.2 hz
        have q0 := (hp 0 _ (List.getElem?_eq_getElem hpos)).2.1
        obtain ⟨b, off, spot⟩ := a
        have hspot : spot = none := by simpa [Addr.add] using World.cell?_spot q0
        subst hspot
        refine ⟨b, off, rfl, lt_of_cell q0, fun i q hi => ?_⟩
        have := (hp i q hi).2
        simp only [add_plain] at this
        exact this
end Go.Proofs.Ytadjgljimikodaa
