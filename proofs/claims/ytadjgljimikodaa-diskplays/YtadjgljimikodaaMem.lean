/- Bytes in memory; a disk in memory; what a call may have turned. -/
import Derived.Test.YtadjgljimikodaaRows
import Derived.WalkKit
import Derived.ProofKit
import Derived.OpenShut
import Derived.Handy
import Derived.Lib.SmallJoins
import Derived.Lib.LazyBuf
import Derived.Maps.AppendAt
import Derived.Deep.AppendLies
namespace Go.Proofs.Ytadjgljimikodaa
set_option linter.unusedVariables false
set_option linter.unusedSimpArgs false
open Go.ChangeShapes Go.WideShapes Go.ChangeAt Go.RowKit

theorem hide {p : Prop} (h : p) : Hid p := h
theorem unhide {p : Prop} (h : Hid p) : p := h
theorem cell_keep {B : Nat} {W w1 : World} {a : Addr} {v : Value} (hb : Below B W w1) (ha : a.block < B) (h : W.cell? a = some v) : w1.cell? a = some v := by rw [hb.cell ha]; exact h
theorem add_plain (b off : Nat) (k : Nat) : (⟨b, off, none⟩ : Addr).add k = ⟨b, off + k, none⟩ := by simp [Addr.add]
theorem add_block (a : Addr) (k : Nat) : (a.add k).block = a.block := by
  obtain ⟨b, off, s⟩ := a
  simp only [Addr.add]
  split <;> rfl
theorem lt_of_cell {w : World} {a : Addr} {v : Value} (h : w.cell? a = some v) : a.block < w.heap.size := by
  by_cases hlt : a.block < w.heap.size
  · exact hlt
  · exfalso
    obtain ⟨b, o, s⟩ := a
    simp [World.cell?, Array.getElem?_eq_none (Nat.le_of_not_lt hlt)] at h

def bv (l : List Nat) : List Value := l.map fun (x : Nat) => Value.int .u8 (Int.ofNat x)
theorem bv_len (l : List Nat) : (bv l).length = l.length := by simp [bv]
theorem bv_append (l m : List Nat) : bv (l ++ m) = bv l ++ bv m := by simp [bv]
theorem bv_take (l : List Nat) (n : Nat) : bv (l.take n) = (bv l).take n := by simp [bv]
theorem bv_one (l : List Nat) : ∀ u ∈ bv l, u.oneCell' = true := by
  intro u hu
  simp only [bv, List.mem_map] at hu
  obtain ⟨x, _, rfl⟩ := hu
  rfl
theorem bv_get {l : List Nat} {j : Nat} {u : Value} (h : (bv l)[j]? = some u) : ∃ y, l[j]? = some y ∧ u = .int .u8 (y : Int) := by
  rw [bv, List.getElem?_map] at h
  obtain ⟨y, hy, rfl⟩ := Option.map_eq_some_iff.1 h
  exact ⟨y, hy, rfl⟩

/-- a slice whose elements are these bytes -/
def Byt (w : World) (v : Value) (l : List Nat) : Prop :=
  (v = .slice none 0 0 ∧ l = []) ∨ ∃ a cap, v = .slice (some a) l.length cap ∧ l.length ≤ cap ∧ cap ≤ maxLen ∧ ∀ (i y : Nat), l[i]? = some y → w.cell? (a.add i) = some (.int .u8 (y : Int))
theorem Byt.call {w w1 : World} {v : Value} {l : List Nat} (h : Byt w v l) (hb : Below w.heap.size w w1) : Byt w1 v l := by
  rcases h with h | ⟨a, cap, hv, h1, h2, h3⟩
  · exact .inl h
  · refine .inr ⟨a, cap, hv, h1, h2, fun i y hy => ?_⟩
    have := h3 i y hy
    exact cell_keep hb (lt_of_cell this) this
theorem Byt.of_own {w : World} {base : Nat} {v : Value} {l : List Nat} (h : w.ownsRow base 5 1 v l.length (bv l)) : Byt w v l := by
  have h0 := h
  obtain ⟨_, ⟨rfl, hz⟩ | ⟨g, cap, cur, rfl, hg, hh, h1, h2, h3, h4⟩⟩ := h
  · exact .inl ⟨rfl, List.length_eq_zero_iff.1 hz⟩
  · refine .inr ⟨⟨g, 0, none⟩, cap, rfl, h1, h2, fun i y hy => ?_⟩
    exact h0.cells rfl i (.int .u8 (y : Int)) (by rw [bv, List.getElem?_map, hy]; rfl)
theorem Byt.news {w : World} {a : Addr} {l : List Nat} (h : ∀ (i y : Nat), l[i]? = some y → w.cell? (a.add i) = some (.int .u8 (y : Int))) : ∀ j u, (bv l)[j]? = some u → w.cell? (a.add j) = some u := by
  intro j u hj
  obtain ⟨y, hy, rfl⟩ := bv_get hj
  exact h j y hy
theorem byt_shape {w : World} {v : Value} {l : List Nat} (h : Byt w v l) : ∃ a cap, v = .slice a l.length cap := by
  rcases h with ⟨rfl, rfl⟩ | ⟨a, cap, rfl, _⟩
  · exact ⟨none, 0, rfl⟩
  · exact ⟨some a, cap, rfl⟩
theorem nil_byt (w : World) : Byt w (.slice none 0 0) [] := .inl ⟨rfl, rfl⟩
theorem own_cast {w : World} {b n m : Nat} {v : Value} {xs ys : List Value} (h : w.ownsRow b 5 1 v n xs) (hn : n = m) (hx : xs = ys) : w.ownsRow b 5 1 v m ys := by subst hn hx; exact h
theorem own_zero {w : World} {b n : Nat} {v : Value} {xs : List Value} (h : w.ownsRow b 5 1 v n xs) : w.ownsRow 0 5 1 v n xs := by
  obtain ⟨h1, h | ⟨g, cap, cur, hv, _, r⟩⟩ := h
  · exact ⟨h1, .inl h⟩
  · exact ⟨h1, .inr ⟨g, cap, cur, hv, Nat.zero_le _, r⟩⟩
theorem info5 : (Try.prog.info? 5).map (fun i => (i.zero, i.size, i.bytes)) = some (some (.int .u8 0), 1, 1) := by kernel_rfl

/-- of the blocks that there were only those of p may have turned -/
structure Only (p : Nat → Prop) (w w' : World) : Prop where
  os : w'.os = w.os
  tape : w'.tape = w.tape
  output : w'.output = w.output
  size : w.heap.size ≤ w'.heap.size
  block : ∀ k, k < w.heap.size → ¬ p k → w'.heap[k]? = w.heap[k]?
theorem Only.refl (p : Nat → Prop) (w : World) : Only p w w := ⟨rfl, rfl, rfl, Nat.le_refl _, fun _ _ _ => rfl⟩
theorem Only.trans {p : Nat → Prop} {a b c : World} (h : Only p a b) (k : Only p b c) : Only p a c :=
  ⟨k.os.trans h.os, k.tape.trans h.tape, k.output.trans h.output, Nat.le_trans h.size k.size, fun i hi hn => (k.block i (Nat.lt_of_lt_of_le hi h.size) hn).trans (h.block i hi hn)⟩
/-- a second step may turn what is new besides -/
theorem Only.next {p q : Nat → Prop} {a b c : World} (h : Only p a b) (k : Only q b c) (hq : ∀ i, q i → p i ∨ a.heap.size ≤ i) : Only p a c :=
  ⟨k.os.trans h.os, k.tape.trans h.tape, k.output.trans h.output, Nat.le_trans h.size k.size, fun i hi hn => (k.block i (Nat.lt_of_lt_of_le hi h.size) (fun hqi => by rcases hq i hqi with h1 | h1; exact hn h1; omega)).trans (h.block i hi hn)⟩
theorem Only.mono {p q : Nat → Prop} {a b : World} (h : Only p a b) (hq : ∀ i, p i → q i) : Only q a b :=
  ⟨h.os, h.tape, h.output, h.size, fun i hi hn => h.block i hi (fun hp => hn (hq i hp))⟩
theorem Only.of_below {p : Nat → Prop} {a b : World} (h : Below a.heap.size a b) : Only p a b := ⟨h.os, h.tape, h.output, h.size, fun i hi _ => h.block i hi⟩
theorem Only.of_grown {p : Nat → Prop} {a b : World} {r : Option Nat} (h : a.grownBy b r) (hr : ∀ k, r = some k → p k) : Only p a b :=
  ⟨h.os, h.tape, h.output, h.size, fun i hi hn => h.block i hi (fun e => hn (hr i e.symm))⟩
theorem Only.below {p : Nat → Prop} {a b : World} {B : Nat} (h : Only p a b) (hB : B ≤ a.heap.size) (hp : ∀ k, p k → B ≤ k) : Below B a b :=
  ⟨h.os, h.tape, h.output, h.size, fun i hi => h.block i (by omega) (fun hpi => by have := hp i hpi; omega)⟩
theorem Only.set {p : Nat → Prop} {a b : World} (h : Only p a b) (g i : Nat) (v : Value) (hg : p g) : Only p a (b.setCell ⟨g, i, none⟩ v) :=
  h.trans ⟨rfl, rfl, rfl, by simp [World.setCell], fun k hk hn => Below.heap_setCell _ _ _ _ (fun e => hn (e ▸ hg))⟩
theorem Only.drewN {p : Nat → Prop} {a b : World} (h : Only p a b) (d : Nat) : Only p a (b.drewN d) := h.trans (Only.of_below (Joins.below_draws _ _ d))
theorem Only.cell {p : Nat → Prop} {a b : World} (h : Only p a b) {q : Addr} {v : Value} (hq : ¬ p q.block) (hv : a.cell? q = some v) : b.cell? q = some v := by
  rw [World.cell?_of_block (w := a) (h.block q.block (lt_of_cell hv) hq)]; exact hv
theorem Only.frozen {p : Nat → Prop} {a b : World} (h : Only p a b) {q : Addr} (hs : q.block < a.heap.size) (hq : ¬ p q.block) : b.frozen? q = a.frozen? q :=
  World.frozen?_of_block (w := a) (h.block q.block hs hq)
theorem Only.own {p : Nat → Prop} {a b : World} (h : Only p a b) {base n : Nat} {v : Value} {xs : List Value} (ho : a.ownsRow base 5 1 v n xs) (hv : ∀ k, v.ownBlock = some k → ¬ p k) : b.ownsRow base 5 1 v n xs := by
  obtain ⟨h1, hh | ⟨g, cap, cur, rfl, hg, hc, r⟩⟩ := ho
  · exact ⟨h1, .inl hh⟩
  · have hlt : g < a.heap.size := by
      rcases Nat.lt_or_ge g a.heap.size with hlt | hge
      · exact hlt
      · rw [Array.getElem?_eq_none hge] at hc; cases hc
    exact ⟨h1, .inr ⟨g, cap, cur, rfl, hg, by rw [h.block g hlt (hv g rfl)]; exact hc, r⟩⟩
theorem Only.byt {p : Nat → Prop} {a b : World} (h : Only p a b) {v : Value} {l : List Nat} (hb : Byt a v l) (hv : ∀ k, v.ownBlock = some k → ¬ p k) : Byt b v l := by
  rcases hb with hb | ⟨ad, cap, rfl, h1, h2, h3⟩
  · exact .inl hb
  · refine .inr ⟨ad, cap, rfl, h1, h2, fun i y hy => ?_⟩
    exact h.cell (by rw [add_block]; exact hv _ rfl) (h3 i y hy)

/-- a disk's blocks -/
def Ft (g : Nat) (S : Nat → Value) (k : Nat) : Prop := k = g ∨ ∃ i, i < 3 ∧ (S i).ownBlock = some k
/-- what a disk is -/
structure DS where
  F : Nat → List Nat
  room : Nat
  on : Bool
  fuse : Nat
def DS.used (d : DS) : Nat := (d.F 0).length + (d.F 1).length + (d.F 2).length
structure DS.Ok (d : DS) : Prop where
  room1 : 1 ≤ d.room
  room2 : d.room ≤ 16777216
  used : d.used ≤ d.room
  fuse : d.fuse ≤ 9223372036854775807
structure Cells (w : World) (g : Nat) (S : Nat → Value) (room : Nat) (on : Bool) (fuse : Nat) : Prop where
  c0 : w.cell? ⟨g, 0, none⟩ = some (S 0)
  c1 : w.cell? ⟨g, 1, none⟩ = some (S 1)
  c2 : w.cell? ⟨g, 2, none⟩ = some (S 2)
  c3 : w.cell? ⟨g, 3, none⟩ = some (.int .i64 (room : Int))
  c4 : w.cell? ⟨g, 4, none⟩ = some (.bool on)
  c5 : w.cell? ⟨g, 5, none⟩ = some (.int .i64 (fuse : Int))
  z0 : w.frozen? ⟨g, 0, none⟩ = false
  z1 : w.frozen? ⟨g, 1, none⟩ = false
  z2 : w.frozen? ⟨g, 2, none⟩ = false
  z3 : w.frozen? ⟨g, 3, none⟩ = false
  z4 : w.frozen? ⟨g, 4, none⟩ = false
  z5 : w.frozen? ⟨g, 5, none⟩ = false
structure Rowed (w : World) (g : Nat) (S : Nat → Value) (F : Nat → List Nat) : Prop where
  own : ∀ i, i < 3 → w.ownsRow 0 5 1 (S i) (F i).length (bv (F i))
  far : ∀ i, i < 3 → (S i).ownBlock ≠ some g
  apart : ∀ i j, i < 3 → j < 3 → i ≠ j → ∀ k, (S i).ownBlock = some k → (S j).ownBlock ≠ some k
structure Dk (w : World) (g : Nat) (S : Nat → Value) (d : DS) : Prop where
  cells : Cells w g S d.room d.on d.fuse
  rows : Rowed w g S d.F
  ok : d.Ok

theorem Cells.lt {w : World} {g : Nat} {S : Nat → Value} {r f : Nat} {o : Bool} (h : Cells w g S r o f) : g < w.heap.size := lt_of_cell h.c0
theorem Cells.keep {w w' : World} {g : Nat} {S : Nat → Value} {r f : Nat} {o : Bool} (h : Cells w g S r o f) (hb : w'.heap[g]? = w.heap[g]?) : Cells w' g S r o f := by
  have e : ∀ i, w'.cell? ⟨g, i, none⟩ = w.cell? ⟨g, i, none⟩ := fun i => World.cell?_of_block (w := w) hb
  have z : ∀ i, w'.frozen? ⟨g, i, none⟩ = w.frozen? ⟨g, i, none⟩ := fun i => World.frozen?_of_block (w := w) hb
  obtain ⟨a0, a1, a2, a3, a4, a5, b0, b1, b2, b3, b4, b5⟩ := h
  constructor <;> first | rw [e] | rw [z]
  all_goals assumption
theorem Dk.keep {w w' : World} {p : Nat → Prop} {g : Nat} {S : Nat → Value} {d : DS} (h : Dk w g S d) (hb : Only p w w') (hp : ∀ k, Ft g S k → ¬ p k) : Dk w' g S d :=
  ⟨h.cells.keep (hb.block g h.cells.lt (hp g (.inl rfl))), ⟨fun i hi => hb.own (h.rows.own i hi) (fun k hk => hp k (.inr ⟨i, hi, hk⟩)), h.rows.far, h.rows.apart⟩, h.ok⟩
theorem Dk.ft_lt {w : World} {g : Nat} {S : Nat → Value} {d : DS} (h : Dk w g S d) {k : Nat} (hk : Ft g S k) : k < w.heap.size := by
  rcases hk with rfl | ⟨i, hi, hk⟩
  · exact h.cells.lt
  · exact ((h.rows.own i hi).lt k hk).2
theorem Dk.call {w w' : World} {g : Nat} {S : Nat → Value} {d : DS} (h : Dk w g S d) (hb : Below w.heap.size w w') : Dk w' g S d :=
  h.keep (p := fun _ => False) (Only.of_below hb) (fun _ _ h => h)
theorem Dk.shape {w : World} {g : Nat} {S : Nat → Value} {d : DS} (h : Dk w g S d) (i : Nat) (hi : i < 3) : ∃ a cap, S i = .slice a (d.F i).length cap := byt_shape (Byt.of_own (h.rows.own i hi))

theorem set_other {w : World} {g i j : Nat} (v : Value) (h : i ≠ j) : (w.setCell ⟨g, i, none⟩ v).cell? ⟨g, j, none⟩ = w.cell? ⟨g, j, none⟩ := by
  apply World.cell?_setCell_other
  intro e
  injection e with _ e2 _
  exact h e2
theorem set_same {w : World} {a : Addr} {u : Value} (v : Value) (h : w.cell? a = some u) : (w.setCell a v).cell? a = some v := by
  apply World.cell?_setCell_same
  exact h
theorem Cells.setOn {w : World} {g : Nat} {S : Nat → Value} {r f : Nat} {o : Bool} (h : Cells w g S r o f) (o' : Bool) : Cells (w.setCell ⟨g, 4, none⟩ (.bool o')) g S r o' f := by
  obtain ⟨a0, a1, a2, a3, a4, a5, b0, b1, b2, b3, b4, b5⟩ := h
  constructor
  all_goals first
    | (rw [set_other _ (by decide)]; assumption)
    | (exact set_same _ a4)
    | (simpa using (by assumption))
theorem Cells.setFuse {w : World} {g : Nat} {S : Nat → Value} {r f : Nat} {o : Bool} (h : Cells w g S r o f) (f' : Nat) : Cells (w.setCell ⟨g, 5, none⟩ (.int .i64 (f' : Int))) g S r o f' := by
  obtain ⟨a0, a1, a2, a3, a4, a5, b0, b1, b2, b3, b4, b5⟩ := h
  constructor
  all_goals first
    | (rw [set_other _ (by decide)]; assumption)
    | (exact set_same _ a5)
    | (simpa using (by assumption))
def upd {α : Type} (S : Nat → α) (i : Nat) (v : α) : Nat → α := fun j => if j = i then v else S j
theorem upd_same {α : Type} (S : Nat → α) (i : Nat) (v : α) : upd S i v i = v := by simp [upd]
theorem upd_other {α : Type} (S : Nat → α) (i j : Nat) (v : α) (h : j ≠ i) : upd S i v j = S j := by simp [upd, h]
theorem Cells.setFile {w : World} {g : Nat} {S : Nat → Value} {r f : Nat} {o : Bool} (h : Cells w g S r o f) (i : Nat) (hi : i < 3) (v : Value) : Cells (w.setCell ⟨g, i, none⟩ v) g (upd S i v) r o f := by
  obtain ⟨a0, a1, a2, a3, a4, a5, b0, b1, b2, b3, b4, b5⟩ := h
  match i, hi with
  | 0, _ => constructor <;> first | (rw [set_other _ (by decide)]; assumption) | (exact set_same _ a0) | (simpa using (by assumption))
  | 1, _ => constructor <;> first | (rw [set_other _ (by decide)]; assumption) | (exact set_same _ a1) | (simpa using (by assumption))
  | 2, _ => constructor <;> first | (rw [set_other _ (by decide)]; assumption) | (exact set_same _ a2) | (simpa using (by assumption))
theorem Rowed.setG {w : World} {g : Nat} {S : Nat → Value} {F : Nat → List Nat} (h : Rowed w g S F) (i : Nat) (v : Value) : Rowed (w.setCell ⟨g, i, none⟩ v) g S F :=
  ⟨fun j hj => ((Only.refl (fun k => k = g) w).set g i v rfl).own (h.own j hj) (fun k hk e => h.far j hj (e ▸ hk)), h.far, h.apart⟩
/-- a file's slice is another one, of its own block, or of a new one -/
theorem Rowed.upd {w w' : World} {g i : Nat} {S : Nat → Value} {F : Nat → List Nat} (h : Rowed w g S F) (hi : i < 3) (hg : g < w.heap.size) {v : Value} {l : List Nat} (hv : w'.ownsRow 0 5 1 v l.length (bv l)) (hgr : w.grownBy w' (S i).ownBlock)
    (hat : v.ownBlock = none ∨ v.ownBlock = (S i).ownBlock ∨ v.ownBlock = some w.heap.size) : Rowed w' g (upd S i v) (upd F i l) := by
  have hlt : ∀ j, j < 3 → ∀ k, (S j).ownBlock = some k → k < w.heap.size := fun j hj k hk => ((h.own j hj).lt k hk).2
  refine ⟨fun j hj => ?_, fun j hj => ?_, fun j k hj hk hne m hm => ?_⟩
  · by_cases e : j = i
    · subst e; rw [upd_same, upd_same]; exact hv
    · rw [upd_other _ _ _ _ e, upd_other _ _ _ _ e]
      refine (h.own j hj).kept hgr ?_
      cases hb : (S j).ownBlock with
      | none => exact .inl rfl
      | some k => exact .inr (fun e2 => h.apart j i hj hi e k hb e2.symm)
  · by_cases e : j = i
    · subst e; rw [upd_same]
      rcases hat with h1 | h1 | h1
      · rw [h1]; simp
      · rw [h1]; exact h.far j hj
      · rw [h1]; intro e; injection e; omega
    · rw [upd_other _ _ _ _ e]; exact h.far j hj
  · by_cases e : j = i
    · subst e
      rw [upd_same] at hm
      rw [upd_other _ _ _ _ (fun e => hne e.symm)]
      rcases hat with h1 | h1 | h1
      · rw [h1] at hm; cases hm
      · rw [h1] at hm; exact h.apart j k hj hk hne m hm
      · rw [h1] at hm; injection hm with hm; intro e; have := hlt k hk m e; omega
    · rw [upd_other _ _ _ _ e] at hm
      by_cases e2 : k = i
      · subst e2
        rw [upd_same]
        rcases hat with h1 | h1 | h1
        · rw [h1]; simp
        · rw [h1]; exact h.apart j k hj hk hne m hm
        · rw [h1]; intro e; injection e with e; have := hlt j hj m hm; omega
      · rw [upd_other _ _ _ _ e2]; exact h.apart j k hj hk hne m hm
theorem Ft.upd {g i : Nat} {S : Nat → Value} {v : Value} {n : Nat} (hi : i < 3) (hat : v.ownBlock = none ∨ v.ownBlock = (S i).ownBlock ∨ v.ownBlock = some n) {k : Nat} (hk : Ft g (upd S i v) k) : Ft g S k ∨ n ≤ k := by
  rcases hk with rfl | ⟨j, hj, hk⟩
  · exact .inl (.inl rfl)
  · by_cases e : j = i
    · subst e
      rw [upd_same] at hk
      rcases hat with h1 | h1 | h1
      · rw [h1] at hk; cases hk
      · rw [h1] at hk; exact .inl (.inr ⟨j, hj, hk⟩)
      · rw [h1] at hk; injection hk with hk; right; omega
    · rw [upd_other _ _ _ _ e] at hk; exact .inl (.inr ⟨j, hj, hk⟩)

theorem idx0 (v0 v1 v2 : Value) (w : World) : (Instr.index 40 (.agg #[v0, v1, v2]) (.int .i64 0)).run Try.prog w = .ok v0 w := by
  simp [Instr.index, run_underlying Try.underlying40, asIntOf, part, go_sem]
theorem idx1 (v0 v1 v2 : Value) (w : World) : (Instr.index 40 (.agg #[v0, v1, v2]) (.int .i64 1)).run Try.prog w = .ok v1 w := by
  simp [Instr.index, run_underlying Try.underlying40, asIntOf, part, go_sem]
theorem idx2 (v0 v1 v2 : Value) (w : World) : (Instr.index 40 (.agg #[v0, v1, v2]) (.int .i64 2)).run Try.prog w = .ok v2 w := by
  simp [Instr.index, run_underlying Try.underlying40, asIntOf, part, go_sem]
end Go.Proofs.Ytadjgljimikodaa
