/- How a message comes in; the tables of all rows. -/
import Derived.Test.YtbnfilhilgjnfaaDoorGSml
import Derived.Test.YtbnfilhilgjnfaaDoorFAl5
import Derived.Test.YtbnfilhilgjnfaaDoorCCard
import Derived.Lib.LaidU8T
import Derived.Deep.Slices
import Derived.SizedLaws
import Derived.ChangeMaps5
namespace Go.Proofs.YtbnfilhilgjnfaaDoor
set_option linter.unusedVariables false
set_option linter.unusedSimpArgs false
open Go.ChangeShapes Go.WideShapes Go.ChangeAt Go.RowKit Go.Joins Go.Deep

theorem list_of9 {α : Type} {n : Nat} {p : Nat → α → Prop} (h : ∀ i, i < n → ∃ c, p i c) : ∃ L : List α, L.length = n ∧ ∀ i c, L[i]? = some c → p i c := by
  induction n with
  | zero => exact ⟨[], rfl, fun i c hc => by simp at hc⟩
  | succ n ih =>
    obtain ⟨L, hL, hp⟩ := ih (fun i hi => h i (by omega))
    obtain ⟨c, hc⟩ := h n (by omega)
    refine ⟨L ++ [c], by simp [hL], fun i c' hc' => ?_⟩
    rw [List.getElem?_append] at hc'
    split at hc'
    · exact hp i c' hc'
    · have hi : i = n := by
        by_cases hi : i - L.length = 0
        · omega
        · obtain ⟨q, hq⟩ := Nat.exists_eq_succ_of_ne_zero hi
          rw [hq] at hc'; simp at hc'
      subst hi
      rw [hL, Nat.sub_self] at hc'
      simp at hc'
      subst hc'
      exact hc
set_option maxRecDepth 100000 in
theorem weights_all {H : Type} {P : Program} {e : TypeId} : ∀ {l : List (DataW H)} {d : DataW H}, d ∈ l → ∀ n ∈ d.weights P e, n ∈ DataW.weightsAll P e l
  | d' :: r, d, hd, n, hn => by
    simp only [DataW.weightsAll, List.mem_append]
    rcases List.mem_cons.1 hd with rfl | h
    · exact Or.inl hn
    · exact Or.inr (weights_all h n hn)
set_option maxRecDepth 100000 in
theorem open_parts {H : Type} {enc : TypeId × Value → H} {W : World} {base fuel : Nat} {spare : Nat → Bool} {held : Bool} {v : Value} {x : DataW H × List MemPlace}
    (hf : DataW.trod enc Tryd.prog W base spare held fuel 23 [v] = some x) (hz : ∀ n ∈ x.1.weights Tryd.prog 23, n ≤ reachBytes) :
    ∃ (a : Option Addr) (l : List Ed.Pt) (c : Nat), v = .slice a l.length c ∧ Ed.PtsAt W a l ∧ l.length ≤ maxLen ∧ ∀ p ∈ l, p.text.size ≤ 140737488351232 := by
  rcases open_slice Tryd.underlying23 hf with ⟨hcs, _⟩ | ⟨a, n, c, m, k, D, Pl, hcs, hb, hl, hm, hmm, hx, hel⟩
  · simp at hcs
    subst hcs
    exact ⟨none, [], 0, rfl, .inl rfl, by simp, by simp⟩
  · simp at hcs
    subst hcs
    have hlm : n ≤ m := by rw [hmm]; split <;> omega
    have hd : x.1 = _ := congrArg Prod.fst hx
    have each : ∀ i, i < n → ∃ q : Ed.Pt, W.cell? (a.add (i * 3)) = some (.int .i64 q.kind) ∧ W.cell? (a.add (i * 3 + 1)) = some (.int .i64 q.n) ∧ W.cell? (a.add (i * 3 + 2)) = some (.string q.text) ∧ q.text.size ≤ 140737488351232 := by
      intro i hi
      obtain ⟨cs', h1, h2⟩ := hel i (by omega)
      rw [show Tryd.prog.cellsOf 44 = 3 by kernel_rfl] at h1
      obtain ⟨_, hlen, hcell⟩ := World.cells?_some h1
      obtain ⟨xs, kk, hk, hxy, _, hxl, hfld⟩ := DataW.trod_struct Tryd.underlying44 h2
      match xs, hxl, cs', hlen with
      | [y0, y1, y2], _, [v0, v1, v2], _ =>
        have g0 := hfld 0 _ rfl
        have g1 := hfld 1 _ rfl
        have g2 := hfld 2 _ rfl
        simp [show Tryd.prog.cellsOf 3 = 1 by kernel_rfl, show Tryd.prog.cellsOf 9 = 1 by kernel_rfl] at g0 g1 g2
        have e0 := hcell 0 (by omega)
        have e1 := hcell 1 (by omega)
        have e2 := hcell 2 (by omega)
        rw [Go.Deep.add_add] at e0 e1 e2
        obtain ⟨x0, f0, _, _⟩ := DataW.trod_int Tryd.underlying3 g0
        obtain ⟨x1, f1, _, _⟩ := DataW.trod_int Tryd.underlying3 g1
        obtain ⟨x2, f2, f3, _⟩ := DataW.trod_string Tryd.underlying9 g2
        simp at f0 f1 f2
        subst f0 f1 f2
        refine ⟨⟨x0, x1, x2⟩, by simpa using e0, by simpa using e1, by simpa using e2, ?_⟩
        have hw := hz x2.data.toList.length (by
          rw [hd]
          simp only [DataW.weights, Tryd.underlying23, List.mem_cons, List.mem_append]
          refine .inr (.inl (weights_all (d := D i) (List.mem_map.2 ⟨i, List.mem_range.2 hi, rfl⟩) _ ?_))
          have hD : D i = .agg [y0.1, y1.1, y2.1] := (Prod.mk.inj hxy).1
          rw [hD]
          simp only [DataW.weights, Tryd.underlying44]
          simp [DataW.weightsEach, f3, DataW.weights])
        simp only [reachBytes] at hw
        rw [Lib.size_eq]
        exact hw
    obtain ⟨L, hL, hp⟩ := list_of9 each
    refine ⟨some a, L, c, by rw [hL], ?_, by rw [hL]; omega, fun q hq => ?_⟩
    · by_cases hzz : L = []
      · exact .inl hzz
      · right
        have hpos : 0 < L.length := List.length_pos_iff.2 hzz
        have q0 := (hp 0 _ (List.getElem?_eq_getElem hpos)).1
        obtain ⟨b, off, spot⟩ := a
        have hspot : spot = none := by simpa [Addr.add] using World.cell?_spot q0
        subst hspot
        have hlt := lt_of_cell q0
        rw [Addr.add_lit] at hlt
        refine ⟨b, off, rfl, hlt, fun i q hi => ?_⟩
        obtain ⟨r0, r1, r2, _⟩ := hp i q hi
        rw [Addr.add_lit] at r0 r1 r2
        exact ⟨r0, by rw [Nat.add_assoc]; exact r1, by rw [Nat.add_assoc]; exact r2⟩
    · obtain ⟨i, hi⟩ := List.getElem?_of_mem hq
      exact (hp i q hi).2.2.2
theorem cells23 : Tryd.prog.cellsOf 23 = 1 := by kernel_rfl
theorem cells22' : Tryd.prog.cellsOf 22 = 1 := by kernel_rfl
/-- a message that comes in -/
structure MsgIn (W : World) (a : Option Addr) (l : List Ed.Pt) : Prop where
  pts : Ed.PtsAt W a l
  max : l.length ≤ maxLen
  txt : ∀ p ∈ l, p.text.size ≤ 281474976710656
set_option maxRecDepth 100000 in
theorem open_msg {H : Type} {enc : TypeId × Value → H} {W : World} {b0 base : Nat} {spare : Nat → Bool} {held : Bool} {v : Value} {d : DataW H} {p : List MemPlace}
    (hv : Value.okWide Tryd.prog W .any b0 25 v) (h : DataW.Trod enc Tryd.prog W base spare held 25 v d p) (hz : ∀ n ∈ d.weights Tryd.prog 25, n ≤ reachBytes) :
    ∃ (k x0 x1 x2 x3 x4 x5 x6 : Int) (a : Option Addr) (l : List Ed.Pt) (c : Nat), v = msgV k x0 x1 x2 x3 x4 x5 x6 (.slice a l.length c) ∧ MsgIn W a l := by
  obtain ⟨cs, rfl, hsz⟩ := okWide_struct Tryd.underlying25 hv
  rw [show Tryd.prog.cellsOf 25 = 9 by kernel_rfl] at hsz
  obtain ⟨fuel, hf⟩ := h
  obtain ⟨xs, n, hk, hxy, _, hxl, hfl⟩ := DataW.trod_struct Tryd.underlying25 hf
  obtain ⟨l, rfl⟩ : ∃ l : List Value, cs = l.toArray := ⟨cs.toList, by simp⟩
  have hl9 : l.length = 9 := by simpa using hsz
  match l, hl9 with
  | [v0, v1, v2, v3, v4, v5, v6, v7, v8], _ =>
    match xs, hxl with
    | [y0, y1, y2, y3, y4, y5, y6, y7, y8], _ =>
      have g0 := hfl 0 _ rfl
      have g1 := hfl 1 _ rfl
      have g2 := hfl 2 _ rfl
      have g3 := hfl 3 _ rfl
      have g4 := hfl 4 _ rfl
      have g5 := hfl 5 _ rfl
      have g6 := hfl 6 _ rfl
      have g7 := hfl 7 _ rfl
      have g8 := hfl 8 _ rfl
      simp [cells3, cells22', cells23, Value.cells] at g0 g1 g2 g3 g4 g5 g6 g7 g8
      obtain ⟨z0, hz0, _⟩ := DataW.trod_int Tryd.underlying3 g0
      obtain ⟨z1, hz1, _⟩ := DataW.trod_int Tryd.underlying3 g1
      obtain ⟨z2, hz2, _⟩ := DataW.trod_int Tryd.underlying3 g2
      obtain ⟨z3, hz3, _⟩ := DataW.trod_int Tryd.underlying3 g3
      obtain ⟨z4, hz4, _⟩ := DataW.trod_int Tryd.underlying3 g4
      obtain ⟨z5, hz5, _⟩ := DataW.trod_int Tryd.underlying3 g5
      obtain ⟨z6, hz6, _⟩ := DataW.trod_int Tryd.underlying3 g6
      obtain ⟨z7, hz7, _⟩ := DataW.trod_int Tryd.underlying22 g7
      simp at hz0 hz1 hz2 hz3 hz4 hz5 hz6 hz7
      subst hz0 hz1 hz2 hz3 hz4 hz5 hz6 hz7
      obtain ⟨a, L, c, rfl, hp, hm, ht⟩ := open_parts g8 (fun n hn => hz n (by
        have hD : d = .agg [y0.1, y1.1, y2.1, y3.1, y4.1, y5.1, y6.1, y7.1, y8.1] := (Prod.mk.inj hxy).1
        rw [hD]
        simp only [DataW.weights, Tryd.underlying25]
        simp [DataW.weightsEach, hn]))
      exact ⟨z0, z1, z2, z3, z4, z5, z6, z7, a, L, c, rfl, hp, hm, fun p hp => by have := ht p hp; omega⟩

theorem gMost : Tryd.prog.globalNamed "sealskin/frame.most" = some 1 := by kernel_rfl
theorem yMost : (Tryd.prog.globals[1]?).map (·.type) = some 50 := by kernel_rfl
theorem cells50' : Tryd.prog.cellsOf 50 = 7 := by kernel_rfl
theorem u8x : U8Extra Tryd.prog Ed.Tryd.lays196_ren := ⟨by kernel_rfl, by kernel_rfl, by kernel_rfl, by kernel_rfl, by kernel_rfl, by kernel_rfl, by kernel_rfl⟩
set_option maxRecDepth 100000 in
theorem glay_of {W : World} (h : laidMet Tryd.prog flaidList W) : GLay W := by
  refine ⟨flay_of h, ?_, ?_⟩
  · obtain ⟨g, t, cs, fuel, p, hg, hty, hvar, hd⟩ := Lib.laidMet.reads h (n := "sealskin/frame.most") (d := Rows.laid_sealskin_frame_most) (by simp [flaidList])
    obtain rfl := Option.some.inj (gMost.symm.trans hg)
    obtain rfl := Option.some.inj (yMost.symm.trans hty)
    have e1 : cs.toList = i64v mostL := Lib.cells_of_tab (zs := [7, 1099511627776, 1099511627776, 1099511627776, 1099511627776, 31, 1000]) Tryd.underlying50 Tryd.underlying3 cells3 cells50' hd
    obtain ⟨t, fr, hh⟩ := var_row gMost hvar
    exact ⟨t, fr, by rw [hh, ← e1]⟩
  · exact utf8Tabs_of_readsT (U8Types.of196 Ed.Tryd.lays196) u8x (Lib.laidMet.reads h (n := "unicode/utf8.first") (d := Rows.laid_unicode_utf8_first) (by simp [flaidList])) (Lib.laidMet.reads h (n := "unicode/utf8.acceptRanges") (d := Rows.laid_unicode_utf8_acceptRanges) (by simp [flaidList]))
end Go.Proofs.YtbnfilhilgjnfaaDoor
