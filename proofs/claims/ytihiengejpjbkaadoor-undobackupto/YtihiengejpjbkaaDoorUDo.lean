/- How lists of calls come in; how much text. -/
import Derived.Test.YtihiengejpjbkaaDoorUSh
namespace Go.Proofs.YtihiengejpjbkaaDoor
set_option linter.unusedVariables false
set_option linter.unusedSimpArgs false
open Go.ChangeShapes Go.WideShapes Go.ChangeAt Go.RowKit Go.Joins Go.Deep

theorem one_le {H : Type} (d : DataW H) : 1 ≤ Rows.uptoBulk d := by
  cases d with
  | lit l => cases l <;> simp [Rows.uptoBulk]
  | nil => simp [Rows.uptoBulk]
  | ptr d => simp [Rows.uptoBulk]
  | slice elems spare => simp [Rows.uptoBulk]
  | agg parts => simp [Rows.uptoBulk]
  | iface t d => simp [Rows.uptoBulk]
  | map entries => simp [Rows.uptoBulk]
  | held h => simp [Rows.uptoBulk]
theorem sum_bulk {H α : Type} (D : Nat → DataW H) (f : α → Nat) : ∀ (L : List α) (k : Nat), (∀ i q, L[i]? = some q → f q ≤ Rows.uptoBulk (D (k + i))) → (L.map f).sum ≤ Rows.uptoBulkAll ((List.range' k L.length).map D)
  | [], k, h => by simp
  | q :: r, k, h => by
    have h1 := h 0 q rfl
    have h2 := sum_bulk D f r (k + 1) (fun i x hx => by have := h (i + 1) x (by simpa using hx); rw [show k + 1 + i = k + (i + 1) by omega]; exact this)
    rw [List.map_cons, List.sum_cons, List.length_cons, List.range'_succ, List.map_cons]
    simp only [Rows.uptoBulkAll]
    simp only [Nat.add_zero] at h1
    omega
theorem sum_bulk0 {H α : Type} (D : Nat → DataW H) (f : α → Nat) {L : List α} {n : Nat} (hn : L.length = n) (h : ∀ i q, L[i]? = some q → f q ≤ Rows.uptoBulk (D i)) : (L.map f).sum ≤ Rows.uptoBulkAll ((List.range n).map D) := by
  subst hn
  rw [List.range_eq_range']
  exact sum_bulk D f L 0 (fun i q hq => by rw [Nat.zero_add]; exact h i q hq)
set_option maxRecDepth 100000 in
theorem open_pts {H : Type} {enc : TypeId × Value → H} {W : World} {base : Nat} {spare : Nat → Bool} {held : Bool} {fuel : Nat} {cs : List Value} {d : DataW H} {p : List MemPlace}
    (hf : DataW.trod enc Tryd.prog W base spare held fuel 32 cs = some (d, p)) (hz : ∀ n ∈ d.weights Tryd.prog 32, n ≤ reachBytes) :
    ∃ (a : Option Addr) (l : List Pt) (c : Nat), cs = [.slice a l.length c] ∧ Edit W a l c ∧ sumT l ≤ Rows.uptoBulk d := by
  rcases open_slice Tryd.underlying32 hf with ⟨hcs, _⟩ | ⟨a, n, c, m, k, D, Pl, hcs, hb, hl, hm, hmm, hx, hel⟩
  · exact ⟨none, [], 0, hcs, ⟨.inl rfl, by simp, by simp, by simp, by simp⟩, by simp [sumT]⟩
  · have hlm : n ≤ m := by rw [hmm]; split <;> omega
    obtain ⟨hd, _⟩ := Prod.mk.inj hx
    have hsz : n * 32 ≤ reachBytes := by
      have := hz ((((List.range n).map D).length + ((List.range (m - n)).map fun j => D (n + j)).length) * Tryd.prog.bytesOf 38) (by rw [hd]; simp [DataW.weights, Tryd.underlying32])
      rw [show Tryd.prog.bytesOf 38 = 32 by kernel_rfl] at this
      simp only [List.length_map, List.length_range] at this
      omega
    have each : ∀ i, i < n → ∃ q : Pt, W.cell? (a.add (i * 3)) = some (.int .i64 q.kind) ∧ W.cell? (a.add (i * 3 + 1)) = some (.int .i64 q.n) ∧ W.cell? (a.add (i * 3 + 2)) = some (.string q.text) ∧ q.text.size ≤ 140737488351232 ∧ q.text.size ≤ Rows.uptoBulk (D i) := by
      intro i hi
      obtain ⟨cs', h1, h2⟩ := hel i (by omega)
      rw [show Tryd.prog.cellsOf 38 = 3 by kernel_rfl] at h1
      obtain ⟨_, hlen, hcell⟩ := World.cells?_some h1
      obtain ⟨xs, kk, hk, hxy, _, hxl, hfld⟩ := DataW.trod_struct Tryd.underlying38 h2
      match xs, hxl, cs', hlen with
      | [y0, y1, y2], _, [v0, v1, v2], _ =>
        have g0 := hfld 0 _ rfl
        have g1 := hfld 1 _ rfl
        have g2 := hfld 2 _ rfl
        simp [show Tryd.prog.cellsOf 3 = 1 by kernel_rfl, show Tryd.prog.cellsOf 9 = 1 by kernel_rfl] at g0 g1 g2
        have e0 := hcell 0 (by omega)
        have e1 := hcell 1 (by omega)
        have e2 := hcell 2 (by omega)
        rw [add_add] at e0 e1 e2
        obtain ⟨x0, f0, _, _⟩ := DataW.trod_int Tryd.underlying3 g0
        obtain ⟨x1, f1, _, _⟩ := DataW.trod_int Tryd.underlying3 g1
        obtain ⟨x2, f2, f3, _⟩ := DataW.trod_string Tryd.underlying9 g2
        simp at f0 f1 f2
        subst f0 f1 f2
        have hD : D i = .agg [y0.1, y1.1, y2.1] := (Prod.mk.inj hxy).1
        refine ⟨⟨x0, x1, x2⟩, by simpa using e0, by simpa using e1, by simpa using e2, ?_, ?_⟩
        · have hw := hz x2.data.toList.length (by
            rw [hd]
            simp only [DataW.weights, Tryd.underlying32, List.mem_cons, List.mem_append]
            refine .inr (.inl (weights_all (d := D i) (List.mem_map.2 ⟨i, List.mem_range.2 hi, rfl⟩) _ ?_))
            rw [hD]
            simp only [DataW.weights, Tryd.underlying38]
            simp [DataW.weightsEach, f3, DataW.weights])
          simp only [reachBytes] at hw
          rw [Lib.size_eq]
          exact hw
        · rw [hD, Lib.size_eq]
          simp only [Rows.uptoBulk, Rows.uptoBulkAll, f3]
          omega
    obtain ⟨L, hL, hp⟩ := list_of each
    refine ⟨some a, L, c, by rw [hL]; exact hcs, ⟨?_, by rw [hL]; exact hl, hm, fun q hq => ?_, by rw [hL]; simp only [reachBytes] at hsz; omega⟩, ?_⟩
    · by_cases hzz : L = []
      · exact .inl hzz
      · right
        have hpos : 0 < L.length := List.length_pos_iff.2 hzz
        have q0 := (hp 0 _ (List.getElem?_eq_getElem hpos)).1
        obtain ⟨b, off, spot⟩ := a
        have hspot : spot = none := by simpa [Addr.add] using World.cell?_spot q0
        subst hspot
        refine ⟨b, off, rfl, by
          rcases Nat.lt_or_ge b W.heap.size with h1 | h1
          · exact h1
          · simp [World.cell?, Addr.add, Array.getElem?_eq_none h1] at q0, fun i q hi => ?_⟩
        obtain ⟨r0, r1, r2, _⟩ := hp i q hi
        rw [Addr.add_lit] at r0 r1 r2
        exact ⟨r0, by rw [Nat.add_assoc]; exact r1, by rw [Nat.add_assoc]; exact r2⟩
    · obtain ⟨i, hi⟩ := List.getElem?_of_mem hq
      exact (hp i q hi).2.2.2.1
    · have h1 : sumT L ≤ Rows.uptoBulkAll ((List.range n).map D) := sum_bulk0 D (fun p : Pt => p.text.size) hL (fun i q hq => (hp i q hq).2.2.2.2)
      rw [hd]
      simp only [Rows.uptoBulk]
      omega
set_option maxRecDepth 100000 in
theorem open_ed {H : Type} {enc : TypeId × Value → H} {W : World} {b0 base : Nat} {spare : Nat → Bool} {held : Bool} {v : Value} {d : DataW H} {p : List MemPlace}
    (hv : Value.okWide Tryd.prog W .any b0 32 v) (h : DataW.Trod enc Tryd.prog W base spare held 32 v d p) (hz : ∀ n ∈ d.weights Tryd.prog 32, n ≤ reachBytes) :
    ∃ (a : Option Addr) (l : List Pt) (c : Nat), v = .slice a l.length c ∧ Edit W a l c ∧ sumT l ≤ Rows.uptoBulk d := by
  obtain ⟨a, n, c, rfl⟩ := okWide_slice Tryd.underlying32 hv
  obtain ⟨fuel, hf⟩ := h
  obtain ⟨a', l, c', e, h1, h2⟩ := open_pts hf hz
  simp [Value.cells] at e
  obtain ⟨rfl, rfl, rfl⟩ := e
  exact ⟨_, l, _, rfl, h1, h2⟩
set_option maxRecDepth 100000 in
theorem open_str {H : Type} {enc : TypeId × Value → H} {W : World} {b0 base : Nat} {spare : Nat → Bool} {held : Bool} {v : Value} {d : DataW H} {p : List MemPlace}
    (hv : Value.okWide Tryd.prog W .any b0 9 v) (h : DataW.Trod enc Tryd.prog W base spare held 9 v d p) : ∃ s : ByteArray, v = .string s ∧ s.size ≤ Rows.uptoBulk d := by
  obtain ⟨s, rfl, rfl, _, _⟩ := Go.ChangeMaps.open_string Tryd.underlying9 hv h
  refine ⟨s, rfl, ?_⟩
  rw [Lib.size_eq]
  simp [Rows.uptoBulk]
/-- how much text all of them have -/
def sumD (L : List Dl) : Nat := (L.map (fun d => sumT d.l)).sum
set_option maxRecDepth 100000 in
theorem open_dos {H : Type} {enc : TypeId × Value → H} {W : World} {b0 base : Nat} {spare : Nat → Bool} {held : Bool} {v : Value} {d : DataW H} {p : List MemPlace}
    (hv : Value.okWide Tryd.prog W .any b0 22 v) (h : DataW.Trod enc Tryd.prog W base spare held 22 v d p) (hz : ∀ n ∈ d.weights Tryd.prog 22, n ≤ reachBytes) :
    ∃ (a : Option Addr) (L : List Dl) (c : Nat), v = .slice a L.length c ∧ Dos W a L ∧ L.length ≤ c ∧ c ≤ maxLen ∧ sumD L ≤ Rows.uptoBulk d := by
  obtain ⟨a, n, c, rfl⟩ := okWide_slice Tryd.underlying22 hv
  obtain ⟨fuel, hf⟩ := h
  rcases open_slice Tryd.underlying22 hf with ⟨hcs, _⟩ | ⟨a, n, c, m, k, D, Pl, hcs, hb, hl, hm, hmm, hx, hel⟩
  · simp [Value.cells] at hcs
    obtain ⟨rfl, rfl, rfl⟩ := hcs
    exact ⟨none, [], 0, rfl, ⟨fun d hd => (List.not_mem_nil hd).elim, Or.inl rfl⟩, by simp, by simp, by simp [sumD]⟩
  · simp [Value.cells] at hcs
    obtain ⟨rfl, rfl, rfl⟩ := hcs
    have hlm : n ≤ m := by rw [hmm]; split <;> omega
    obtain ⟨hd, _⟩ := Prod.mk.inj hx
    have each : ∀ i, i < n → ∃ q : Dl, Edit W q.a q.l q.c ∧ (∀ f u, q.cs[f]? = some u → W.cell? (a.add (i * 3 + f)) = some u) ∧ sumT q.l ≤ Rows.uptoBulk (D i) := by
      intro i hi
      obtain ⟨cs', h1, h2⟩ := hel i (by omega)
      rw [show Tryd.prog.cellsOf 34 = 3 by kernel_rfl] at h1
      obtain ⟨_, hlen, hcell⟩ := World.cells?_some h1
      obtain ⟨xs, kk, hk, hxy, _, hxl, hfld⟩ := DataW.trod_struct Tryd.underlying34 h2
      match xs, hxl, cs', hlen with
      | [y0, y1, y2], _, [v0, v1, v2], _ =>
        have g0 := hfld 0 _ rfl
        have g1 := hfld 1 _ rfl
        have g2 := hfld 2 _ rfl
        simp [show Tryd.prog.cellsOf 3 = 1 by kernel_rfl, show Tryd.prog.cellsOf 32 = 1 by kernel_rfl] at g0 g1 g2
        obtain ⟨x0, f0, _, _⟩ := DataW.trod_int Tryd.underlying3 g0
        obtain ⟨x1, f1, _, _⟩ := DataW.trod_int Tryd.underlying3 g1
        have hD : D i = .agg [y0.1, y1.1, y2.1] := (Prod.mk.inj hxy).1
        obtain ⟨y2d, y2p⟩ := y2
        obtain ⟨a2, l2, c2, f2, E2, S2⟩ := open_pts g2 (fun n2 hn2 => hz n2 (by
          rw [hd]
          simp only [DataW.weights, Tryd.underlying22, List.mem_cons, List.mem_append]
          refine .inr (.inl (weights_all (d := D i) (List.mem_map.2 ⟨i, List.mem_range.2 hi, rfl⟩) _ ?_))
          rw [hD]
          simp only [DataW.weights, Tryd.underlying34]
          simp [DataW.weightsEach, hn2]))
        simp at f0 f1 f2
        subst f0 f1 f2
        refine ⟨⟨x0, x1, a2, l2, c2⟩, E2, fun f u hu => ?_, ?_⟩
        · have hlt : f < 3 := by have := (List.getElem?_eq_some_iff.1 hu).1; simpa [Dl.cs] using this
          have := hcell f (by omega)
          rw [add_add] at this
          rw [this]
          simpa [Dl.cs] using hu
        · rw [hD]
          simp only [Rows.uptoBulk, Rows.uptoBulkAll]
          show sumT l2 ≤ _
          omega
    obtain ⟨L, hL, hp⟩ := list_of each
    refine ⟨some a, L, c, by rw [hL], ⟨fun q hq => ?_, ?_⟩, by rw [hL]; exact hl, hm, ?_⟩
    · obtain ⟨i, hi⟩ := List.getElem?_of_mem hq
      exact (hp i q hi).1
    · by_cases hzz : L = []
      · exact .inl hzz
      · right
        have hpos : 0 < L.length := List.length_pos_iff.2 hzz
        have q0 := (hp 0 _ (List.getElem?_eq_getElem hpos)).2.1 0 _ rfl
        obtain ⟨b, off, spot⟩ := a
        have hspot : spot = none := by simpa [Addr.add] using World.cell?_spot q0
        subst hspot
        refine ⟨b, off, rfl, by
          rcases Nat.lt_or_ge b W.heap.size with h1 | h1
          · exact h1
          · simp [World.cell?, Addr.add, Array.getElem?_eq_none h1] at q0, fun i q hi f u hu => ?_⟩
        have r0 := (hp i q hi).2.1 f u hu
        rw [Addr.add_lit] at r0
        rw [Nat.add_assoc]
        exact r0
    · have h1 : sumD L ≤ Rows.uptoBulkAll ((List.range n).map D) := sum_bulk0 D (fun q : Dl => sumT q.l) hL (fun i q hq => (hp i q hq).2.2)
      rw [hd]
      simp only [Rows.uptoBulk]
      omega
end Go.Proofs.YtihiengejpjbkaaDoor
