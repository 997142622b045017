/- The desk's guests in memory; what reads them. -/
import Derived.Test.YthgacmlbmcehmaaDLat
import Derived.StillTail
namespace Go.Proofs.Ythgacmlbmcehmaa
set_option linter.unusedVariables false
set_option linter.unusedSimpArgs false
open Go.ChangeShapes Go.WideShapes Go.ChangeAt Go.RowKit Go.Joins Go.Deep

/-- of the blocks that there were only those of p may have turned -/
structure Only (p : Nat → Prop) (w w' : World) : Prop where
  os : w'.os = w.os
  tape : w'.tape = w.tape
  output : w'.output = w.output
  size : w.heap.size ≤ w'.heap.size
  block : ∀ k, k < w.heap.size → ¬ p k → w'.heap[k]? = w.heap[k]?
theorem Only.refl (p : Nat → Prop) (w : World) : Only p w w := ⟨rfl, rfl, rfl, Nat.le_refl _, fun _ _ _ => rfl⟩
theorem Only.trans {p : Nat → Prop} {a b c : World} (h : Only p a b) (k : Only p b c) : Only p a c :=
  ⟨k.os.trans h.os, k.tape.trans h.tape, k.output.trans h.output, Nat.le_trans h.size k.size, fun i hi hn => (k.block i (Nat.lt_of_lt_of_le hi h.size) hn).trans (h.block i hi hn)⟩
/-- a second step may turn what is new besides -/
theorem Only.next {p q : Nat → Prop} {a b c : World} (h : Only p a b) (k : Only q b c) (hq : ∀ i, q i → p i ∨ a.heap.size ≤ i) : Only p a c :=
  ⟨k.os.trans h.os, k.tape.trans h.tape, k.output.trans h.output, Nat.le_trans h.size k.size, fun i hi hn => (k.block i (Nat.lt_of_lt_of_le hi h.size) (fun hqi => by rcases hq i hqi with h1 | h1; exact hn h1; omega)).trans (h.block i hi hn)⟩
theorem Only.mono {p q : Nat → Prop} {a b : World} (h : Only p a b) (hq : ∀ i, p i → q i) : Only q a b :=
  ⟨h.os, h.tape, h.output, h.size, fun i hi hn => h.block i hi (fun hp => hn (hq i hp))⟩
theorem Only.of_below {p : Nat → Prop} {a b : World} (h : Below a.heap.size a b) : Only p a b := ⟨h.os, h.tape, h.output, h.size, fun i hi _ => h.block i hi⟩
theorem Only.below {p : Nat → Prop} {a b : World} {B : Nat} (h : Only p a b) (hB : B ≤ a.heap.size) (hp : ∀ k, p k → B ≤ k) : Below B a b :=
  ⟨h.os, h.tape, h.output, h.size, fun i hi => h.block i (by omega) (fun hpi => by have := hp i hpi; omega)⟩
theorem Only.set {p : Nat → Prop} {a b : World} (h : Only p a b) (g i : Nat) (v : Value) (hg : p g) : Only p a (b.setCell ⟨g, i, none⟩ v) :=
  h.trans ⟨rfl, rfl, rfl, by simp [World.setCell], fun k hk hn => Below.heap_setCell _ _ _ _ (fun e => hn (e ▸ hg))⟩
theorem Only.drewN {p : Nat → Prop} {a b : World} (h : Only p a b) (d : Nat) : Only p a (b.drewN d) := h.trans (Only.of_below (Joins.below_draws _ _ d))
theorem Only.drew {p : Nat → Prop} {a b : World} (h : Only p a b) : Only p a b.drew := h.trans ⟨rfl, rfl, rfl, Nat.le_refl _, fun _ _ _ => rfl⟩
theorem Only.alloc {p : Nat → Prop} {a b : World} (h : Only p a b) (o : Obj) : Only p a (b.alloc o) := h.trans (Only.of_below ((Below.refl _ _).alloc (Nat.le_refl _) o))
theorem Only.cell {p : Nat → Prop} {a b : World} (h : Only p a b) {q : Addr} {v : Value} (hq : ¬ p q.block) (hv : a.cell? q = some v) : b.cell? q = some v := by
  rw [World.cell?_of_block (w := a) (h.block q.block (lt_of_cell hv) hq)]; exact hv

/-- these cells are a block of their own -/
def RowAt (w : World) (g : Nat) (t : TypeId) (cs : List Value) : Prop := w.heap[g]? = some (.cells cs.toArray t (0, 0))
theorem RowAt.lt {w : World} {g : Nat} {t : TypeId} {cs : List Value} (h : RowAt w g t cs) : g < w.heap.size := by
  rcases Nat.lt_or_ge g w.heap.size with hlt | hge
  · exact hlt
  · rw [RowAt, Array.getElem?_eq_none hge] at h; cases h
theorem RowAt.cell {w : World} {g : Nat} {t : TypeId} {cs : List Value} (h : RowAt w g t cs) (i : Nat) : w.cell? ⟨g, i, none⟩ = cs[i]? := by
  rw [cell_of_row w g i _ t _ h]; simp
theorem RowAt.frozen {w : World} {g : Nat} {t : TypeId} {cs : List Value} (h : RowAt w g t cs) (i : Nat) : w.frozen? ⟨g, i, none⟩ = false := frozen_of_row w g i _ t h
theorem RowAt.set {w : World} {g : Nat} {t : TypeId} {cs : List Value} (h : RowAt w g t cs) (i : Nat) (v : Value) : RowAt (w.setCell ⟨g, i, none⟩ v) g t (cs.set i v) := by
  rw [RowAt, heap_setCell_same w g i _ t v h]; simp
theorem RowAt.drewN {w : World} {g : Nat} {t : TypeId} {cs : List Value} (h : RowAt w g t cs) (n : Nat) : RowAt (w.drewN n) g t cs := by
  have := (Joins.below_draws w.heap.size w n).block g h.lt
  rw [RowAt, this]; exact h
theorem RowAt.drew {w : World} {g : Nat} {t : TypeId} {cs : List Value} (h : RowAt w g t cs) : RowAt w.drew g t cs := h
theorem RowAt.only {p : Nat → Prop} {w w' : World} {g : Nat} {t : TypeId} {cs : List Value} (h : RowAt w g t cs) (ho : Only p w w') (hg : ¬ p g) : RowAt w' g t cs := by
  rw [RowAt, ho.block g h.lt hg]; exact h
theorem RowAt.below {w w' : World} {g B : Nat} {t : TypeId} {cs : List Value} (h : RowAt w g t cs) (hb : Below B w w') (hg : g < B) : RowAt w' g t cs := by
  rw [RowAt, hb.block g hg]; exact h
theorem RowAt.new (w : World) (t : TypeId) (cs : List Value) : RowAt (w.alloc (.cells cs.toArray t)) w.heap.size t cs := heap_alloc_new w _

/-- what is known of a client -/
structure Gst where
  label : Int
  conn : Int
  opn : Bool
  silent : Int
  wrong : Int
  locked : Int
def gv (g : Gst) : List Value := [.int .i64 g.label, .int .i64 g.conn, .bool g.opn, .int .i64 g.silent, .int .i64 g.wrong, .int .i64 g.locked]
def gsv (D : List Gst) : List Value := D.flatMap gv
theorem gsv_len (D : List Gst) : (gsv D).length = 6 * D.length := by
  induction D with
  | nil => rfl
  | cons g D ih => simp only [gsv, List.flatMap_cons, List.length_append] at ih ⊢; rw [show (D.flatMap gv).length = 6 * D.length from ih]; simp [gv]; omega
theorem gsv_get : ∀ (D : List Gst) (i f : Nat) (g : Gst), D[i]? = some g → f < 6 → (gsv D)[i * 6 + f]? = (gv g)[f]?
  | [], i, f, g, h, _ => by simp at h
  | x :: D, 0, f, g, h, hf => by
    obtain rfl : x = g := by simpa using h
    simp only [gsv, List.flatMap_cons]
    rw [List.getElem?_append_left (by simp [gv]; omega), Nat.zero_mul, Nat.zero_add]
  | x :: D, i + 1, f, g, h, hf => by
    simp only [gsv, List.flatMap_cons]
    rw [List.getElem?_append_right (by simp [gv]; omega), show (i + 1) * 6 + f - (gv x).length = i * 6 + f by simp [gv]; omega]
    exact gsv_get D i f g (by simpa using h) hf
theorem gsv_set : ∀ (D : List Gst) (i f : Nat) (g g' : Gst) (v : Value), D[i]? = some g → f < 6 → (gv g).set f v = gv g' → (gsv D).set (i * 6 + f) v = gsv (D.set i g')
  | [], i, f, g, g', v, h, _, _ => by simp at h
  | x :: D, 0, f, g, g', v, h, hf, hv => by
    obtain rfl : x = g := by simpa using h
    simp only [gsv, List.flatMap_cons, List.set_cons_zero, Nat.zero_mul, Nat.zero_add]
    rw [List.set_append_left _ _ (by simp [gv]; omega), hv]
  | x :: D, i + 1, f, g, g', v, h, hf, hv => by
    simp only [gsv, List.flatMap_cons, List.set_cons_succ]
    rw [List.set_append_right _ _ (by simp [gv]; omega), show (i + 1) * 6 + f - (gv x).length = i * 6 + f by simp [gv]; omega]
    have := gsv_set D i f g g' v (by simpa using h) hf hv
    simp only [gsv] at this
    rw [this]
/-- a desk: its own block, its guests' -/
structure Dk (w : World) (g gg c : Nat) (sv : Value) (ex : List Value) (D : List Gst) : Prop where
  obj : RowAt w g 72 [.slice (some ⟨gg, 0, none⟩) D.length c, sv]
  row : RowAt w gg 77 (gsv D ++ ex)
  pos : 0 < D.length
  le : D.length ≤ 8
theorem Dk.ne {w : World} {g gg c : Nat} {sv : Value} {ex : List Value} {D : List Gst} (h : Dk w g gg c sv ex D) : g ≠ gg := by
  intro e
  have h1 := h.obj
  have h2 := h.row
  unfold RowAt at h1 h2
  rw [e, h2] at h1
  simp at h1
theorem Dk.call {w w' : World} {g gg c : Nat} {sv : Value} {ex : List Value} {D : List Gst} (h : Dk w g gg c sv ex D) (hb : Below w.heap.size w w') : Dk w' g gg c sv ex D :=
  ⟨h.obj.below hb h.obj.lt, h.row.below hb h.row.lt, h.pos, h.le⟩
theorem Dk.cell {w : World} {g gg c : Nat} {sv : Value} {ex : List Value} {D : List Gst} (h : Dk w g gg c sv ex D) {i f : Nat} {x : Gst} (hx : D[i]? = some x) (hf : f < 6) : w.cell? ⟨gg, i * 6 + f, none⟩ = (gv x)[f]? := by
  rw [h.row.cell, List.getElem?_append_left (by rw [gsv_len]; have := (List.getElem?_eq_some_iff.1 hx).1; omega)]
  exact gsv_get D i f x hx hf
theorem Dk.set {w : World} {g gg c : Nat} {sv : Value} {ex : List Value} {D : List Gst} (h : Dk w g gg c sv ex D) {i f : Nat} {x x' : Gst} {v : Value} (hx : D[i]? = some x) (hf : f < 6) (hv : (gv x).set f v = gv x') :
    Dk (w.setCell ⟨gg, i * 6 + f, none⟩ v) g gg c sv ex (D.set i x') := by
  refine ⟨?_, ?_, by rw [List.length_set]; exact h.pos, by rw [List.length_set]; exact h.le⟩
  · rw [List.length_set]
    exact h.obj.only ((Only.refl (· = gg) w).set gg _ _ rfl) h.ne
  · have := h.row.set (i * 6 + f) v
    rw [List.set_append_left _ _ (by rw [gsv_len]; have := (List.getElem?_eq_some_iff.1 hx).1; omega), gsv_set D i f x x' v hx hf hv] at this
    exact this
set_option maxRecDepth 100000 in
set_option maxHeartbeats 4000000 in
theorem find_ok (g gg c : Nat) (sv : Value) (ex : List Value) (D : List Gst) (w : World) (h : Dk w g gg c sv ex D) (i : Nat) (x : Gst) (hx : D[i]? = some x) :
    Calls Try.prog 39 #[.pointer (some ⟨g, 0, none⟩), .int .i64 (i : Int)] w fun e w' => e = .returned (.tuple #[.pointer (some ⟨gg, i * 6, none⟩), .int .i64 0]) ∧ w = w' := by
  have c0 : w.cell? ⟨g, 0, none⟩ = some (.slice (some ⟨gg, 0, none⟩) D.length c) := h.obj.cell 0
  have hp := h.pos
  have hl := h.le
  obtain ⟨n, hn⟩ : ∃ n, D.length = n := ⟨_, rfl⟩
  rw [hn] at c0 hp hl
  have n0 : ((n : Int) == 0) = false := beq_eq_false_iff_ne.2 (by omega)
  have n1 : (n : Int) ≤ 8 := by omega
  have hi : i < n := by have := (List.getElem?_eq_some_iff.1 hx).1; omega
  have i0 : ¬ (i : Int) < 0 := by omega
  have i1 : ¬ (n : Int) ≤ (i : Int) := by omega
  have i2 : (i : Int) < (n : Int) := by omega
  clear h hx
  go_enter Try.func39, Try.ntmps39
  go_wp2_with fail
  go_ret2
  exact ⟨rfl, rfl⟩
set_option maxRecDepth 100000 in
set_option maxHeartbeats 4000000 in
theorem find_arg (g gg c : Nat) (sv : Value) (ex : List Value) (D : List Gst) (w : World) (h : Dk w g gg c sv ex D) (i : Int) (hi : i < 0 ∨ (D.length : Int) ≤ i) :
    Calls Try.prog 39 #[.pointer (some ⟨g, 0, none⟩), .int .i64 i] w fun e w' => e = .returned (.tuple #[.pointer none, .int .i64 1]) ∧ w = w' := by
  have c0 : w.cell? ⟨g, 0, none⟩ = some (.slice (some ⟨gg, 0, none⟩) D.length c) := h.obj.cell 0
  have hp := h.pos
  have hl := h.le
  obtain ⟨n, hn⟩ : ∃ n, D.length = n := ⟨_, rfl⟩
  rw [hn] at c0 hp hl
  have n0 : ((n : Int) == 0) = false := beq_eq_false_iff_ne.2 (by omega)
  have n1 : (n : Int) ≤ 8 := by omega
  rw [hn] at hi
  clear h
  by_cases i0 : i < 0
  · clear hi
    go_enter Try.func39, Try.ntmps39
    go_wp2_with fail
    go_ret2
    exact ⟨rfl, rfl⟩
  · have i1 : (n : Int) ≤ i := by omega
    clear hi
    go_enter Try.func39, Try.ntmps39
    go_wp2_with fail
    go_ret2
    exact ⟨rfl, rfl⟩
set_option maxRecDepth 100000 in
set_option maxHeartbeats 4000000 in
theorem find_nil (i : Int) (w : World) : Calls Try.prog 39 #[.pointer none, .int .i64 i] w fun e w' => e = .returned (.tuple #[.pointer none, .int .i64 6]) ∧ w = w' := by
  go_enter Try.func39, Try.ntmps39
  go_wp2_with fail
  go_ret2
  exact ⟨rfl, rfl⟩
set_option maxRecDepth 100000 in
set_option maxHeartbeats 4000000 in
theorem find_zero (g : Nat) (i : Int) (w : World) (h : RowAt w g 72 [.slice none 0 0, .slice none 0 0]) : Calls Try.prog 39 #[.pointer (some ⟨g, 0, none⟩), .int .i64 i] w fun e w' => e = .returned (.tuple #[.pointer none, .int .i64 6]) ∧ w = w' := by
  have c0 : w.cell? ⟨g, 0, none⟩ = some (.slice none 0 0) := h.cell 0
  clear h
  go_enter Try.func39, Try.ntmps39
  go_wp2_with fail
  go_ret2
  exact ⟨rfl, rfl⟩
end Go.Proofs.Ythgacmlbmcehmaa
