/- The document's own desk in memory. -/
import Derived.Test.YthgacmlbmcehmaaDRR
import Derived.Deep.MidRow
namespace Go.Proofs.Ythgacmlbmcehmaa
set_option linter.unusedVariables false
set_option linter.unusedSimpArgs false
open Go.ChangeShapes Go.WideShapes Go.ChangeAt Go.RowKit Go.Joins Go.Deep

/-- what the document's own desk knows of a client -/
structure Rg where
  conn : Int
  opn : Bool
  silent : Int
  wrong : Int
  locked : Int
def rv (g : Rg) : List Value := [.int .i64 g.conn, .bool g.opn, .int .i64 g.silent, .int .i64 g.wrong, .int .i64 g.locked]
def rsv (R : List Rg) : List Value := R.flatMap rv
theorem rsv_len (D : List Rg) : (rsv D).length = 5 * D.length := by
  induction D with
  | nil => rfl
  | cons g D ih => simp only [rsv, List.flatMap_cons, List.length_append] at ih ⊢; rw [show (D.flatMap rv).length = 5 * D.length from ih]; simp [rv]; omega
theorem rsv_get : ∀ (D : List Rg) (i f : Nat) (g : Rg), D[i]? = some g → f < 5 → (rsv D)[i * 5 + f]? = (rv g)[f]?
  | [], i, f, g, h, _ => by simp at h
  | x :: D, 0, f, g, h, hf => by
    obtain rfl : x = g := by simpa using h
    simp only [rsv, List.flatMap_cons]
    rw [List.getElem?_append_left (by simp [rv]; omega), Nat.zero_mul, Nat.zero_add]
  | x :: D, i + 1, f, g, h, hf => by
    simp only [rsv, List.flatMap_cons]
    rw [List.getElem?_append_right (by simp [rv]; omega), show (i + 1) * 5 + f - (rv x).length = i * 5 + f by simp [rv]; omega]
    exact rsv_get D i f g (by simpa using h) hf
theorem rsv_set : ∀ (D : List Rg) (i : Nat) (g : Rg), i < D.length → ((((((rsv D).set (i * 5) (.int .i64 g.conn)).set (i * 5 + 1) (.bool g.opn)).set (i * 5 + 2) (.int .i64 g.silent)).set (i * 5 + 3) (.int .i64 g.wrong)).set (i * 5 + 4) (.int .i64 g.locked)) = rsv (D.set i g)
  | [], i, g, h => by simp at h
  | x :: D, 0, g, h => by
    simp [rsv, List.flatMap_cons, rv]
  | x :: D, i + 1, g, h => by
    have := rsv_set D i g (by simpa using h)
    simp only [rsv, List.flatMap_cons, List.set_cons_succ] at this ⊢
    rw [← this]
    have e : ∀ k, (i + 1) * 5 + k = (rv x).length + (i * 5 + k) := by intro k; simp [rv]; omega
    have e0 : (i + 1) * 5 = (rv x).length + (i * 5) := by simp [rv]; omega
    rw [e 1, e 2, e 3, e 4, e0]
    simp only [List.set_append, show ∀ k, ¬ ((rv x).length + k < (rv x).length) from fun k => by omega, if_false, Nat.add_sub_cancel_left]
theorem info53 : (Try.prog.info? 53).map (fun i => (i.zero, i.size, i.bytes)) = some (some (.agg #[.int .i64 0, .bool false, .int .i64 0, .int .i64 0, .int .i64 0]), 5, 40) := by kernel_rfl
/-- the document's own desk: its block, and its guests' -/
structure Rk (w : World) (g gg c : Nat) (s0 s1 s2 : Value) (ex : List Value) (R : List Rg) : Prop where
  obj : RowAt w g 51 [s0, s1, s2, .slice (some ⟨gg, 0, none⟩) R.length c]
  row : RowAt w gg 53 (rsv R ++ ex)
  pos : 0 < R.length
  le : R.length ≤ 8
  cap : R.length ≤ c ∧ c ≤ maxLen
theorem Rk.call {w w' : World} {g gg c : Nat} {s0 s1 s2 : Value} {ex : List Value} {R : List Rg} (h : Rk w g gg c s0 s1 s2 ex R) (hb : Below w.heap.size w w') : Rk w' g gg c s0 s1 s2 ex R :=
  ⟨h.obj.below hb h.obj.lt, h.row.below hb h.row.lt, h.pos, h.le, h.cap⟩
theorem Rk.cell {w : World} {g gg c : Nat} {s0 s1 s2 : Value} {ex : List Value} {R : List Rg} (h : Rk w g gg c s0 s1 s2 ex R) {i f : Nat} {x : Rg} (hx : R[i]? = some x) (hf : f < 5) : w.cell? ⟨gg, i * 5 + f, none⟩ = (rv x)[f]? := by
  rw [h.row.cell, List.getElem?_append_left (by rw [rsv_len]; have := (List.getElem?_eq_some_iff.1 hx).1; omega)]
  exact rsv_get R i f x hx hf
theorem rv_one (R : List Rg) : ∀ y ∈ rsv R, y.oneCell' = true := by
  intro y hy
  obtain ⟨u, _, hu⟩ := List.mem_flatMap.1 hy
  simp only [rv, List.mem_cons, List.not_mem_nil, or_false] at hu
  rcases hu with rfl | rfl | rfl | rfl | rfl <;> rfl
theorem ob_eq {k m n c : Nat} (h : (Value.slice (some ⟨m, 0, none⟩) n c).ownBlock = some k) : m = k := by simpa [Value.ownBlock] using h
theorem own_row {w : World} {B g n c : Nat} {R : List Rg} (h : w.ownsRow B 53 5 (.slice (some ⟨g, 0, none⟩) n c) n (rsv R)) (hn : 0 < n) : ∃ ex, RowAt w g 53 (rsv R ++ ex) ∧ n ≤ c ∧ c ≤ maxLen ∧ B ≤ g := by
  obtain ⟨h1, ⟨h2, h3⟩ | ⟨g', cap, cur, e1, e2, e3, e4, e5, e6, e7⟩⟩ := h
  · omega
  · obtain ⟨rfl, rfl⟩ : g = g' ∧ c = cap := by simpa using e1
    refine ⟨cur.toList.drop (n * 5), ?_, e4, e5, e2⟩
    rw [← e7, List.take_append_drop]
    exact e3
theorem setCells_only (b : Nat) : ∀ (vs : List Value) (o : Nat) (w : World), Only (· = b) w (w.setCells b o vs)
  | [], o, w => Only.refl _ _
  | v :: vs, o, w => ((Only.refl (· = b) w).set b o v rfl).trans (setCells_only b vs (o + 1) _)
theorem setCells_rv {w : World} {g i : Nat} {R : List Rg} {ex : List Value} (h : RowAt w g 53 (rsv R ++ ex)) (hi : i < R.length) (y : Rg) : RowAt (w.setCells g (i * 5) (rv y)) g 53 (rsv (R.set i y) ++ ex) := by
  have := ((((h.set (i * 5) (.int .i64 y.conn)).set (i * 5 + 1) (.bool y.opn)).set (i * 5 + 2) (.int .i64 y.silent)).set (i * 5 + 3) (.int .i64 y.wrong)).set (i * 5 + 4) (.int .i64 y.locked)
  have hl : ∀ k, k < 5 → i * 5 + k < (rsv R).length := by intro k hk; rw [rsv_len]; omega
  have h0 := hl 0 (by omega)
  rw [List.set_append_left _ _ (by simpa using hl 0 (by omega)), List.set_append_left _ _ (by simpa using hl 1 (by omega)), List.set_append_left _ _ (by simpa using hl 2 (by omega)), List.set_append_left _ _ (by simpa using hl 3 (by omega)), List.set_append_left _ _ (by simpa using hl 4 (by omega)), rsv_set R i y hi] at this
  exact this
/-- behind the append: a copy of the guests in a block of its own -/
structure Aft (w w' : World) (g g' cap n : Nat) (y : Rg) (R : List Rg) (ex : List Value) : Prop where
  row : RowAt w' g' 53 (rsv R ++ ex)
  cap : n ≤ cap ∧ cap ≤ maxLen
  ge : w.heap.size + 1 ≤ g'
  yr : RowAt w' w.heap.size 53 (rv y)
  bel : Below w.heap.size w w'
theorem after_app {w w' : World} {g g' cap n : Nat} {y : Rg} {R : List Rg} (hp : 0 < n) (hB : Below w.heap.size w ((w.alloc (.cells #[.int .i64 y.conn, .bool y.opn, .int .i64 y.silent, .int .i64 y.wrong, .int .i64 y.locked] 53)).alloc (.cells #[] 53))) (hY : RowAt ((w.alloc (.cells #[.int .i64 y.conn, .bool y.opn, .int .i64 y.silent, .int .i64 y.wrong, .int .i64 y.locked] 53)).alloc (.cells #[] 53)) w.heap.size 53 (rv y))
    (own : w'.ownsRow w.heap.size 53 5 (.slice (some ⟨g', 0, none⟩) (0 + n) cap) (0 + n) ([] ++ rsv R)) (grow : ((w.alloc (.cells #[.int .i64 y.conn, .bool y.opn, .int .i64 y.silent, .int .i64 y.wrong, .int .i64 y.locked] 53)).alloc (.cells #[] 53)).grownBy w' (Value.slice (some ⟨w.heap.size + 1, 0, none⟩) 0 0).ownBlock) (lies : (Value.slice (some ⟨w.heap.size + 1, 0, none⟩) 0 0).ownBlock = some g' ∨ g' = w.heap.size + 2) : ∃ ex, Aft w w' g g' cap n y R ex := by
  have hon := grown_only grow
  have hg1 : w.heap.size + 1 ≤ g' := lies.elim (fun e => Nat.le_of_eq (ob_eq e)) (fun e => by omega)
  rw [Nat.zero_add, List.nil_append] at own
  obtain ⟨ex', hrow, hc1, hc2, -⟩ := own_row own hp
  exact ⟨ex', hrow, ⟨hc1, hc2⟩, hg1, hY.only hon (fun e => by have := ob_eq e; omega), ((Only.of_below (p := fun _ => False) hB).next hon (fun k hk => .inr (by have := ob_eq hk; omega))).below (Nat.le_refl _) (fun _ h => h.elim)⟩
theorem Aft.there_ {w w' : World} {g g' cap n i : Nat} {y : Rg} {R : List Rg} {ex : List Value} (h : Aft w w' g g' cap n y R ex) (hn : R.length = n) (hi : i < n) : w'.there g' (i * 5) (rv y).toArray.size := fun j hj => by
  have hj5 : j < 5 := hj
  have hlt : i * 5 + j < (rsv R ++ ex).length := by rw [List.length_append, rsv_len, hn]; omega
  exact ⟨by rw [h.row.cell, List.getElem?_eq_getElem hlt]; rfl, h.row.frozen _⟩
theorem Aft.obj {w w' : World} {g g' cap n gg c : Nat} {y : Rg} {R : List Rg} {ex : List Value} {s0 s1 s2 : Value} {ex0 : List Value} (h : Aft w w' g g' cap n y R ex) (hk : Rk w g gg c s0 s1 s2 ex0 R) (o : Nat) : RowAt (w'.setCells g' o (rv y)) g 51 [s0, s1, s2, .slice (some ⟨gg, 0, none⟩) R.length c] := by
  have hg := hk.obj.lt
  have := h.ge
  exact (hk.obj.below h.bel hg).only (setCells_only g' (rv y) o w') (by omega)
/-- the end: the object's list is the copy -/
theorem Aft.done {w w' : World} {g g' cap n i gg c : Nat} {y : Rg} {R : List Rg} {ex : List Value} {s0 s1 s2 : Value} {ex0 : List Value} (h : Aft w w' g g' cap n y R ex) (hk : Rk w g gg c s0 s1 s2 ex0 R) (hn : R.length = n) (hi : i < n) :
    Rk ((w'.setCells g' (i * 5) (rv y)).setCell ⟨g, 3, none⟩ (.slice (some ⟨g', 0, none⟩) n cap)) g g' cap s0 s1 s2 ex (R.set i y) ∧ Only (· = g) w ((w'.setCells g' (i * 5) (rv y)).setCell ⟨g, 3, none⟩ (.slice (some ⟨g', 0, none⟩) n cap)) := by
  have hg := hk.obj.lt
  have hge := h.ge
  have ho := (h.obj hk (i * 5)).set 3 (.slice (some ⟨g', 0, none⟩) n cap)
  refine ⟨⟨?_, ?_, by rw [List.length_set]; exact hk.pos, by rw [List.length_set]; exact hk.le, by rw [List.length_set, hn]; exact h.cap⟩, ?_⟩
  · rw [List.length_set, hn]
    exact ho
  · exact (setCells_rv h.row (by omega) y).only ((Only.refl (· = g) _).set g _ _ rfl) (by omega)
  · refine Only.set ?_ g _ _ rfl
    exact (Only.of_below (p := (· = g)) h.bel).next (setCells_only g' (rv y) _ w') (fun k hk => .inr (by omega))
set_option maxRecDepth 100000 in
set_option maxHeartbeats 4000000 in
theorem rset_ok (g gg c : Nat) (s0 s1 s2 : Value) (ex : List Value) (R : List Rg) (w : World) (h : Rk w g gg c s0 s1 s2 ex R) (i : Nat) (hi : i < R.length) (y : Rg) :
    Calls Try.prog 42 #[.pointer (some ⟨g, 0, none⟩), .int .i64 (i : Int), .agg #[.int .i64 y.conn, .bool y.opn, .int .i64 y.silent, .int .i64 y.wrong, .int .i64 y.locked]] w fun r w' => r = .returned (.tuple #[]) ∧ (∃ gg' c' ex', Rk w' g gg' c' s0 s1 s2 ex' (R.set i y) ∧ w.heap.size ≤ gg') ∧ Only (· = g) w w' := by
  have c3 : w.cell? ⟨g, 3, none⟩ = some (.slice (some ⟨gg, 0, none⟩) R.length c) := h.obj.cell 3
  have z3 : w.frozen? ⟨g, 3, none⟩ = false := h.obj.frozen 3
  have HH := hide h
  have hl := h.le
  have hp := h.pos
  obtain ⟨n, hn⟩ : ∃ n, R.length = n := ⟨_, rfl⟩
  rw [hn] at c3 hi hl hp
  have HN := hide hn
  clear hn
  have hb : Below w.heap.size w ((w.alloc (.cells #[.int .i64 y.conn, .bool y.opn, .int .i64 y.silent, .int .i64 y.wrong, .int .i64 y.locked] 53)).alloc (.cells #[] 53)) := ((Below.refl _ _).alloc (Nat.le_refl _) _).alloc (by rw [size_alloc]; omega) _
  have c3b : ((w.alloc (.cells #[.int .i64 y.conn, .bool y.opn, .int .i64 y.silent, .int .i64 y.wrong, .int .i64 y.locked] 53)).alloc (.cells #[] 53)).cell? ⟨g, 3, none⟩ = some (.slice (some ⟨gg, 0, none⟩) n c) := by rw [hb.cell (p := ⟨g, _, none⟩) (lt_of_cell c3)]; exact c3
  have hy0 := (RowAt.new w 53 [.int .i64 y.conn, .bool y.opn, .int .i64 y.silent, .int .i64 y.wrong, .int .i64 y.locked])
  have hb2 : Below (w.heap.size + 1) (w.alloc (.cells #[.int .i64 y.conn, .bool y.opn, .int .i64 y.silent, .int .i64 y.wrong, .int .i64 y.locked] 53)) ((w.alloc (.cells #[.int .i64 y.conn, .bool y.opn, .int .i64 y.silent, .int .i64 y.wrong, .int .i64 y.locked] 53)).alloc (.cells #[] 53)) := (Below.refl _ _).alloc (by rw [size_alloc]; omega) _
  have hy1 := hy0.below hb2 (by omega)
  have hown : ((w.alloc (.cells #[.int .i64 y.conn, .bool y.opn, .int .i64 y.silent, .int .i64 y.wrong, .int .i64 y.locked] 53)).alloc (.cells #[] 53)).ownsRow w.heap.size 53 5 (.slice (some ⟨w.heap.size + 1, 0, none⟩) 0 0) 0 [] := by
    refine ⟨rfl, .inr ⟨w.heap.size + 1, 0, #[], rfl, by omega, ?_, by omega, by unfold maxLen; omega, rfl, rfl⟩⟩
    have := RowAt.new (w.alloc (.cells #[.int .i64 y.conn, .bool y.opn, .int .i64 y.silent, .int .i64 y.wrong, .int .i64 y.locked] 53)) 53 []
    rw [size_alloc] at this
    exact this
  have HOWN := hide hown
  have HY1 := hide hy1
  have HB := hide hb
  have hsz2 : ((w.alloc (.cells #[.int .i64 y.conn, .bool y.opn, .int .i64 y.silent, .int .i64 y.wrong, .int .i64 y.locked] 53)).alloc (.cells #[] 53)).heap.size = w.heap.size + 2 := by rw [size_alloc, size_alloc]
  have HSZ := hide hsz2
  have HNW : Hid (∀ j u, (rsv R)[j]? = some u → ((w.alloc (.cells #[.int .i64 y.conn, .bool y.opn, .int .i64 y.silent, .int .i64 y.wrong, .int .i64 y.locked] 53)).alloc (.cells #[] 53)).cell? ((⟨gg, 0, none⟩ : Addr).add j) = some u) := hide (fun j u hj => by
    rw [add_plain, Nat.zero_add, (h.row.below hb h.row.lt).cell, List.getElem?_append_left (List.getElem?_eq_some_iff.1 hj).1]
    exact hj)
  clear hown hy1 hb hsz2 hb2 hy0 h c3 z3
  obtain ⟨i0, hi0, hz0, hsz0, hb0⟩ := info_parts info53
  have HI0 := hide (⟨hi0, hz0, hsz0, hb0⟩ : Try.prog.info? 53 = some i0 ∧ i0.zero = _ ∧ i0.size = 5 ∧ i0.bytes = 40)
  clear hi0 hz0 hsz0 hb0
  have hi53 : (Try.prog.info? 53).map (·.size) = some (rv y).toArray.size := by kernel_rfl
  go_enter Try.func42, Try.ntmps42
  go_wp2_with first
    | (refine wpList_store_mid rfl 53 _ _ rfl g' (i * 5) (rv y).toArray rfl rfl (unhide HTH) hi53 (all_oneCell_toArray (fun v hv => rv_one [y] v (by simpa [rsv] using hv))) ?_; obtain ⟨wz, hwz⟩ : ∃ wz, w'.setCells g' (i * 5) (rv y) = wz := ⟨_, rfl⟩; rw [show (rv y).toArray.toList = rv y from rfl, hwz]; rw [hwz] at c3' z3'; have HWZ := hide hwz; clear hwz HTH y0 y1 y2 y3 y4)
    | (refine wpList_append_lies _ rfl _ _ 49 rfl w.heap.size 53 i0 _ 5 40 Try.underlying49 (unhide HI0).1 (unhide HI0).2.1 (unhide HI0).2.2.1 (unhide HI0).2.2.2 (by simp [Value.cells]) (by decide) (.slice (some ⟨w.heap.size + 1, 0, none⟩) 0 0) 0 [] rfl (unhide HOWN) ⟨gg, 0, none⟩ n c (rsv R) rfl (by rw [rsv_len, unhide HN]; omega) (unhide HNW) (rv_one R) hp (by unfold maxLen; omega) (by omega) (by rw [unhide HSZ]; omega) (w.heap.size + 2) (unhide HSZ) (fun g' cap w' own grow lies lt => ?_); obtain ⟨ex', haf⟩ := after_app (g := g) (y := y) hp (unhide HB) (unhide HY1) own grow lies; have y0 : w'.cell? ⟨w.heap.size, 0, none⟩ = some (.int .i64 y.conn) := haf.yr.cell 0; have y1 : w'.cell? ⟨w.heap.size, 1, none⟩ = some (.bool y.opn) := haf.yr.cell 1; have y2 : w'.cell? ⟨w.heap.size, 2, none⟩ = some (.int .i64 y.silent) := haf.yr.cell 2; have y3 : w'.cell? ⟨w.heap.size, 3, none⟩ = some (.int .i64 y.wrong) := haf.yr.cell 3; have y4 : w'.cell? ⟨w.heap.size, 4, none⟩ = some (.int .i64 y.locked) := haf.yr.cell 4; have jI : (i : Int) < (n : Int) := (by omega); have HTH : Hid (w'.there g' (i * 5) (rv y).toArray.size) := hide (haf.there_ (unhide HN) hi); have ho := haf.obj (unhide HH) (i * 5); rw [unhide HN] at ho; have c3' : (w'.setCells g' (i * 5) (rv y)).cell? ⟨g, 3, none⟩ = some (.slice (some ⟨gg, 0, none⟩) n c) := ho.cell 3; have z3' : (w'.setCells g' (i * 5) (rv y)).frozen? ⟨g, 3, none⟩ = false := ho.frozen 3; have HAF := hide haf; clear own grow lies lt haf ho)
  go_end0
  have hD := (unhide HAF).done (unhide HH) (unhide HN) hi
  rw [unhide HWZ] at hD
  exact ⟨rfl, ⟨g', cap, ex', hD.1, by have := (unhide HAF).ge; omega⟩, hD.2⟩
end Go.Proofs.Ythgacmlbmcehmaa
