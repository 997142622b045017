/- Edits of few parts; how arguments come in. -/
import Derived.Test.YtonabfpgdgnpnaaDoorFof
import Derived.Lib.LaidU8
import Derived.Deep.DeepHandedRow
import Derived.Lib.LaidTab
import Derived.Deep.Slices
import Derived.SizedLaws
import Derived.ChangeMaps5
import Derived.Test.YtonabfpgdgnpnaaDoorCards
import Derived.Test.YtonabfpgdgnpnaaDoorTie
namespace Go.Proofs.YtonabfpgdgnpnaaDoor
set_option linter.unusedVariables false
set_option linter.unusedSimpArgs false
open Go.ChangeShapes Go.WideShapes Go.ChangeAt Go.RowKit Go.Joins Go.Deep

/-- an edit as a slice: where, its parts, its room -/
structure Ev where
  a : Option Addr
  l : List Pt
  c : Nat
def ev (e : Ev) : Value := .slice e.a e.l.length e.c
/-- how much text, each as at most 4096 -/
def wt (l : List Pt) : Int := (l.map (fun p => min (p.text.size : Int) 4096)).sum
def wtS (es : List Ev) : Int := (es.map (fun e => wt e.l)).sum
theorem wt_take {l : List Pt} {i : Nat} {p : Pt} (h : l[i]? = some p) : wt (l.take (i + 1)) = wt (l.take i) + min (p.text.size : Int) 4096 := by
  unfold wt
  rw [List.take_add_one, h]
  simp
theorem wtS_take {l : List Ev} {i : Nat} {e : Ev} (h : l[i]? = some e) : wtS (l.take (i + 1)) = wtS (l.take i) + wt e.l := by
  unfold wtS
  rw [List.take_add_one, h]
  simp
def LgR (es : List Ev) (r : Ending) : Prop := ∃ b, r = .returned (.bool b) ∧ (b = true → (∀ e ∈ es, e.l.length ≤ 200) ∧ wtS es ≤ 4096)
/-- the tables lie there -/
def laidList : List (String × DataW Unit) := [("unicode/utf8.acceptRanges", Rows.laid_unicode_utf8_acceptRanges), ("unicode/utf8.first", Rows.laid_unicode_utf8_first)]
theorem u8x : U8Extra Tryd.prog Tryd.lays197_ren := ⟨by kernel_rfl, by kernel_rfl, by kernel_rfl, by kernel_rfl, by kernel_rfl, by kernel_rfl, by kernel_rfl⟩
set_option maxRecDepth 100000 in
theorem ut_of {W : World} (h : laidMet Tryd.prog laidList W) : UT W :=
  utf8Tabs_of_reads { Tryd.lays197 with } u8x (Lib.laidMet.reads h (n := "unicode/utf8.first") (d := Rows.laid_unicode_utf8_first) (by simp [laidList])) (Lib.laidMet.reads h (n := "unicode/utf8.acceptRanges") (d := Rows.laid_unicode_utf8_acceptRanges) (by simp [laidList]))
theorem own : ownKnob Tryd.prog.godebug = none := by kernel_rfl
theorem laidOut : laidOutB Tryd.prog = true := by kernel_rfl
def accCells : Array Value := #[.int .u8 128, .int .u8 191, .int .u8 160, .int .u8 191, .int .u8 128, .int .u8 159, .int .u8 144, .int .u8 191, .int .u8 128, .int .u8 143, .int .u8 0, .int .u8 0, .int .u8 0, .int .u8 0, .int .u8 0, .int .u8 0, .int .u8 0, .int .u8 0, .int .u8 0, .int .u8 0, .int .u8 0, .int .u8 0, .int .u8 0, .int .u8 0, .int .u8 0, .int .u8 0, .int .u8 0, .int .u8 0, .int .u8 0, .int .u8 0, .int .u8 0, .int .u8 0]
def firstIn : Obj → Obj
  | .cells _ t frozen => .cells (Go.Pinned.utf8FirstZ.map fun (n : Nat) => Value.int .u8 (n : Int)).toArray t frozen
  | o => o
def accIn : Obj → Obj
  | .cells _ t frozen => .cells accCells t frozen
  | o => o
/-- A world for the witness: both tables as their initialisers lay them. -/
noncomputable def laidWorld (os : Os) : World :=
  { World.holding Tryd.prog os ⟨#[], #[], []⟩ with heap := ((World.holding Tryd.prog os ⟨#[], #[], []⟩).heap.modify 0 firstIn).modify 1 accIn }
theorem list_of {α : Type} {n : Nat} {p : Nat → α → Prop} (h : ∀ i, i < n → ∃ c, p i c) : ∃ L : List α, L.length = n ∧ ∀ i c, L[i]? = some c → p i c := by
  induction n with
  | zero => exact ⟨[], rfl, fun i c hc => by simp at hc⟩
  | succ n ih =>
    obtain ⟨L, hL, hp⟩ := ih (fun i hi => h i (by omega))
    obtain ⟨c, hc⟩ := h n (by omega)
    refine ⟨L ++ [c], by simp [hL], fun i c' hc' => ?_⟩
    rw [List.getElem?_append] at hc'
    split at hc'
    · exact hp i c' hc'
    · have hi : i = n := by
        by_cases hi : i - L.length = 0
        · omega
        · obtain ⟨q, hq⟩ := Nat.exists_eq_succ_of_ne_zero hi
          rw [hq] at hc'; simp at hc'
      subst hi
      rw [hL, Nat.sub_self] at hc'
      simp at hc'
      subst hc'
      exact hc
/-- an edit that comes in -/
structure Edit (W : World) (a : Option Addr) (l : List Pt) (c : Nat) : Prop where
  pts : PtsAt W a l
  at_ : AtB W a
  cap : l.length ≤ c
  max : c ≤ maxLen
  txt : ∀ p ∈ l, p.text.size ≤ 140737488351232
  num : l.length ≤ 4398046511104
set_option maxRecDepth 100000 in
theorem weights_all {H : Type} {P : Program} {e : TypeId} : ∀ {l : List (DataW H)} {d : DataW H}, d ∈ l → ∀ n ∈ d.weights P e, n ∈ DataW.weightsAll P e l
  | d' :: r, d, hd, n, hn => by
    simp only [DataW.weightsAll, List.mem_append]
    rcases List.mem_cons.1 hd with rfl | h
    · exact Or.inl hn
    · exact Or.inr (weights_all h n hn)
set_option maxRecDepth 100000 in
theorem open_edit {H : Type} {enc : TypeId × Value → H} {W : World} {b0 base : Nat} {spare : Nat → Bool} {held : Bool} {v : Value} {d : DataW H} {p : List MemPlace}
    (hv : Value.okWide Tryd.prog W .any b0 24 v) (h : DataW.Trod enc Tryd.prog W base spare held 24 v d p) (hz : ∀ n ∈ d.weights Tryd.prog 24, n ≤ reachBytes) :
    ∃ (a : Option Addr) (l : List Pt) (c : Nat), v = .slice a l.length c ∧ Edit W a l c := by
  obtain ⟨a, n, c, rfl⟩ := okWide_slice Tryd.underlying24 hv
  have hat : AtB W a := by
    intro b off e
    subst e
    unfold Value.okWide at hv
    rw [Tryd.underlying24] at hv
    simp only [Cell.okWide, Tryd.underlying24, Cell.ok, World.has] at hv
    obtain ⟨_, _, _, _, row, cells, hs, _⟩ := hv
    unfold World.shape? at hs
    rcases Nat.lt_or_ge b W.heap.size with h1 | h1
    · exact h1
    · simp [Array.getElem?_eq_none h1] at hs
  obtain ⟨fuel, hf⟩ := h
  rcases open_slice Tryd.underlying24 hf with ⟨hcs, _⟩ | ⟨a, len, cap, m, k, D, Pl, hcs, hb, hl, hm, hmm, hx, hel⟩
  · simp [Value.cells] at hcs
    obtain ⟨rfl, rfl, rfl⟩ := hcs
    exact ⟨none, [], 0, rfl, .inl rfl, AtB.none W, by simp, by simp, by simp, by simp⟩
  · simp [Value.cells] at hcs
    obtain ⟨rfl, rfl, rfl⟩ := hcs
    have hlm : n ≤ m := by rw [hmm]; split <;> omega
    obtain ⟨hd, _⟩ := Prod.mk.inj hx
    have hsz : n * 32 ≤ reachBytes := by
      have := hz ((((List.range n).map D).length + ((List.range (m - n)).map fun j => D (n + j)).length) * Tryd.prog.bytesOf 39) (by rw [hd]; simp [DataW.weights, Tryd.underlying24])
      rw [show Tryd.prog.bytesOf 39 = 32 by kernel_rfl] at this
      simp only [List.length_map, List.length_range] at this
      omega
    have each : ∀ i, i < n → ∃ q : Pt, W.cell? (a.add (i * 3)) = some (.int .i64 q.kind) ∧ W.cell? (a.add (i * 3 + 1)) = some (.int .i64 q.n) ∧ W.cell? (a.add (i * 3 + 2)) = some (.string q.text) ∧ q.text.size ≤ 140737488351232 := by
      intro i hi
      obtain ⟨cs', h1, h2⟩ := hel i (by omega)
      rw [show Tryd.prog.cellsOf 39 = 3 by kernel_rfl] at h1
      obtain ⟨_, hlen, hcell⟩ := World.cells?_some h1
      obtain ⟨xs, kk, hk, hxy, _, hxl, hfld⟩ := DataW.trod_struct Tryd.underlying39 h2
      match xs, hxl, cs', hlen with
      | [y0, y1, y2], _, [v0, v1, v2], _ =>
        have g0 := hfld 0 _ rfl
        have g1 := hfld 1 _ rfl
        have g2 := hfld 2 _ rfl
        simp [show Tryd.prog.cellsOf 3 = 1 by kernel_rfl, show Tryd.prog.cellsOf 9 = 1 by kernel_rfl] at g0 g1 g2
        have e0 := hcell 0 (by omega)
        have e1 := hcell 1 (by omega)
        have e2 := hcell 2 (by omega)
        rw [add_add] at e0 e1 e2
        obtain ⟨x0, f0, _, _⟩ := DataW.trod_int Tryd.underlying3 g0
        obtain ⟨x1, f1, _, _⟩ := DataW.trod_int Tryd.underlying3 g1
        obtain ⟨x2, f2, f3, _⟩ := DataW.trod_string Tryd.underlying9 g2
        simp at f0 f1 f2
        subst f0 f1 f2
        refine ⟨⟨x0, x1, x2⟩, by simpa using e0, by simpa using e1, by simpa using e2, ?_⟩
        have hw := hz x2.data.toList.length (by
          rw [hd]
          simp only [DataW.weights, Tryd.underlying24, List.mem_cons, List.mem_append]
          refine .inr (.inl (weights_all (d := D i) (List.mem_map.2 ⟨i, List.mem_range.2 hi, rfl⟩) _ ?_))
          have hD : D i = .agg [y0.1, y1.1, y2.1] := (Prod.mk.inj hxy).1
          rw [hD]
          simp only [DataW.weights, Tryd.underlying39]
          simp [DataW.weightsEach, f3, DataW.weights])
        simp only [reachBytes] at hw
        rw [Lib.size_eq]
        exact hw
    obtain ⟨L, hL, hp⟩ := list_of each
    refine ⟨some a, L, c, by rw [hL], ?_, hat, by rw [hL]; exact hl, hm, fun q hq => ?_, by rw [hL]; simp only [reachBytes] at hsz; omega⟩
    · by_cases hzz : L = []
      · exact .inl hzz
      · right
        have hpos : 0 < L.length := List.length_pos_iff.2 hzz
        have q0 := (hp 0 _ (List.getElem?_eq_getElem hpos)).1
        obtain ⟨b, off, spot⟩ := a
        have hspot : spot = none := by simpa [Addr.add] using World.cell?_spot q0
        subst hspot
        refine ⟨b, off, rfl, hat b off rfl, fun i q hi => ?_⟩
        obtain ⟨r0, r1, r2, _⟩ := hp i q hi
        rw [Addr.add_lit] at r0 r1 r2
        exact ⟨r0, by rw [Nat.add_assoc]; exact r1, by rw [Nat.add_assoc]; exact r2⟩
    · obtain ⟨i, hi⟩ := List.getElem?_of_mem hq
      exact (hp i q hi).2.2.2
set_option maxRecDepth 100000 in
theorem open_text {H : Type} {enc : TypeId × Value → H} {W : World} {b0 base : Nat} {spare : Nat → Bool} {held : Bool} {v : Value} {d : DataW H} {p : List MemPlace}
    (hv : Value.okWide Tryd.prog W .any b0 9 v) (h : DataW.Trod enc Tryd.prog W base spare held 9 v d p) (hz : ∀ n ∈ d.weights Tryd.prog 9, n ≤ reachBytes) : ∃ s : ByteArray, v = .string s ∧ s.size ≤ 140737488351232 := by
  obtain ⟨s, rfl, rfl, _, _⟩ := Go.ChangeMaps.open_string Tryd.underlying9 hv h
  refine ⟨s, rfl, ?_⟩
  have := hz s.data.toList.length (by simp [DataW.weights])
  simp only [reachBytes] at this
  rw [Lib.size_eq]
  exact this
set_option maxRecDepth 100000 in
theorem open_i64 {H : Type} {enc : TypeId × Value → H} {W : World} {b0 base : Nat} {spare : Nat → Bool} {held : Bool} {v : Value} {d : DataW H} {p : List MemPlace}
    (hv : Value.okWide Tryd.prog W .any b0 3 v) (h : DataW.Trod enc Tryd.prog W base spare held 3 v d p) : ∃ n : Int, v = .int .i64 n ∧ -9223372036854775808 ≤ n ∧ n ≤ 9223372036854775807 := by
  obtain ⟨n, rfl, _, _, wn⟩ := open_int Tryd.underlying3 hv h
  have := bounds_i64 wn
  exact ⟨n, rfl, this.1, this.2⟩
set_option maxRecDepth 100000 in
theorem open_bool {H : Type} {enc : TypeId × Value → H} {W : World} {b0 base : Nat} {spare : Nat → Bool} {held : Bool} {v : Value} {d : DataW H} {p : List MemPlace}
    (hv : Value.okWide Tryd.prog W .any b0 4 v) (h : DataW.Trod enc Tryd.prog W base spare held 4 v d p) : ∃ b : Bool, v = .bool b := by
  unfold Value.okWide at hv
  rw [Tryd.underlying4] at hv
  simp only [Cell.okWide, Tryd.underlying4, Cell.ok] at hv
  cases v <;> simp at hv
  exact ⟨_, rfl⟩
end Go.Proofs.YtonabfpgdgnpnaaDoor
