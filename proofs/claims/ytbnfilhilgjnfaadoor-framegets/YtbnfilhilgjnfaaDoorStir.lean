/- Rows of words in memory; to stir four of them. -/
import Derived.Test.YtbnfilhilgjnfaaDoorWord
import Derived.Deep.QuietTactic
import Derived.BigQuiet
namespace Go.Proofs.YtbnfilhilgjnfaaDoor
set_option linter.unusedVariables false
set_option linter.unusedSimpArgs false
open Go.ChangeShapes Go.WideShapes Go.ChangeAt Go.RowKit

theorem cell_keep {B : Nat} {W w1 : World} {a : Addr} {v : Value} (hb : Below B W w1) (ha : a.block < B) (h : W.cell? a = some v) : w1.cell? a = some v := by rw [hb.cell ha]; exact h
theorem add_plain (b off : Nat) (k : Nat) : (⟨b, off, none⟩ : Addr).add k = ⟨b, off + k, none⟩ := by simp [Addr.add]
theorem add_block (a : Addr) (k : Nat) : (a.add k).block = a.block := by
  obtain ⟨b, off, s⟩ := a
  simp only [Addr.add]
  split <;> rfl
theorem lt_of_cell {w : World} {a : Addr} {v : Value} (h : w.cell? a = some v) : a.block < w.heap.size := by
  by_cases hlt : a.block < w.heap.size
  · exact hlt
  · exfalso
    obtain ⟨b, o, s⟩ := a
    simp [World.cell?, Array.getElem?_eq_none (Nat.le_of_not_lt hlt)] at h

/-- of the blocks that there were only those of p may have turned -/
structure Only (p : Nat → Prop) (w w' : World) : Prop where
  os : w'.os = w.os
  tape : w'.tape = w.tape
  output : w'.output = w.output
  size : w.heap.size ≤ w'.heap.size
  block : ∀ k, k < w.heap.size → ¬ p k → w'.heap[k]? = w.heap[k]?
theorem Only.refl (p : Nat → Prop) (w : World) : Only p w w := ⟨rfl, rfl, rfl, Nat.le_refl _, fun _ _ _ => rfl⟩
theorem Only.trans {p : Nat → Prop} {a b c : World} (h : Only p a b) (k : Only p b c) : Only p a c :=
  ⟨k.os.trans h.os, k.tape.trans h.tape, k.output.trans h.output, Nat.le_trans h.size k.size, fun i hi hn => (k.block i (Nat.lt_of_lt_of_le hi h.size) hn).trans (h.block i hi hn)⟩
/-- a second step may turn what is new besides -/
theorem Only.next {p q : Nat → Prop} {a b c : World} (h : Only p a b) (k : Only q b c) (hq : ∀ i, q i → p i ∨ a.heap.size ≤ i) : Only p a c :=
  ⟨k.os.trans h.os, k.tape.trans h.tape, k.output.trans h.output, Nat.le_trans h.size k.size, fun i hi hn => (k.block i (Nat.lt_of_lt_of_le hi h.size) (fun hqi => by rcases hq i hqi with h1 | h1; exact hn h1; omega)).trans (h.block i hi hn)⟩
theorem Only.mono {p q : Nat → Prop} {a b : World} (h : Only p a b) (hq : ∀ i, p i → q i) : Only q a b :=
  ⟨h.os, h.tape, h.output, h.size, fun i hi hn => h.block i hi (fun hp => hn (hq i hp))⟩
theorem Only.of_below {p : Nat → Prop} {a b : World} (h : Below a.heap.size a b) : Only p a b := ⟨h.os, h.tape, h.output, h.size, fun i hi _ => h.block i hi⟩
theorem Only.below {p : Nat → Prop} {a b : World} {B : Nat} (h : Only p a b) (hB : B ≤ a.heap.size) (hp : ∀ k, p k → B ≤ k) : Below B a b :=
  ⟨h.os, h.tape, h.output, h.size, fun i hi => h.block i (by omega) (fun hpi => by have := hp i hpi; omega)⟩
theorem Only.set {p : Nat → Prop} {a b : World} (h : Only p a b) (g i : Nat) (v : Value) (hg : p g) : Only p a (b.setCell ⟨g, i, none⟩ v) :=
  h.trans ⟨rfl, rfl, rfl, by simp [World.setCell], fun k hk hn => Below.heap_setCell _ _ _ _ (fun e => hn (e ▸ hg))⟩
theorem Only.drewN {p : Nat → Prop} {a b : World} (h : Only p a b) (d : Nat) : Only p a (b.drewN d) := h.trans (Only.of_below (Joins.below_draws _ _ d))
theorem Only.drew {p : Nat → Prop} {a b : World} (h : Only p a b) : Only p a b.drew := h.trans ⟨rfl, rfl, rfl, Nat.le_refl _, fun _ _ _ => rfl⟩
theorem Only.alloc {p : Nat → Prop} {a b : World} (h : Only p a b) (o : Obj) : Only p a (b.alloc o) := h.trans (Only.of_below ((Below.refl _ _).alloc (Nat.le_refl _) o))
theorem Only.cell {p : Nat → Prop} {a b : World} (h : Only p a b) {q : Addr} {v : Value} (hq : ¬ p q.block) (hv : a.cell? q = some v) : b.cell? q = some v := by
  rw [World.cell?_of_block (w := a) (h.block q.block (lt_of_cell hv) hq)]; exact hv

def u32v (l : List Nat) : List Value := l.map fun x => Value.int .u32 (Int.ofNat x)
theorem u32v_len (l : List Nat) : (u32v l).length = l.length := by simp [u32v]
theorem u32v_set (l : List Nat) (i x : Nat) : (u32v l).set i (.int .u32 (x : Int)) = u32v (l.set i x) := by simp [u32v, List.map_set]
def W32 (l : List Nat) : Prop := ∀ y ∈ l, y < 4294967296
theorem W32.set {l : List Nat} (h : W32 l) (i : Nat) {x : Nat} (hx : x < 4294967296) : W32 (l.set i x) := by
  intro y hy
  rcases List.mem_or_eq_of_mem_set hy with h1 | rfl
  · exact h y h1
  · exact hx
theorem W32.getD {l : List Nat} (h : W32 l) (i : Nat) : l.getD i 0 < 4294967296 := by
  rw [List.getD_eq_getElem?_getD]
  rcases Nat.lt_or_ge i l.length with hi | hi
  · rw [List.getElem?_eq_getElem hi]; exact h _ (List.getElem_mem hi)
  · rw [List.getElem?_eq_none hi]; decide

/-- these cells are a block of their own -/
def RowAt (w : World) (g : Nat) (t : TypeId) (cs : List Value) : Prop := w.heap[g]? = some (.cells cs.toArray t (0, 0))
theorem RowAt.lt {w : World} {g : Nat} {t : TypeId} {cs : List Value} (h : RowAt w g t cs) : g < w.heap.size := by
  rcases Nat.lt_or_ge g w.heap.size with hlt | hge
  · exact hlt
  · rw [RowAt, Array.getElem?_eq_none hge] at h; cases h
theorem RowAt.cell {w : World} {g : Nat} {t : TypeId} {cs : List Value} (h : RowAt w g t cs) (i : Nat) : w.cell? ⟨g, i, none⟩ = cs[i]? := by
  rw [cell_of_row w g i _ t _ h]; simp
theorem RowAt.frozen {w : World} {g : Nat} {t : TypeId} {cs : List Value} (h : RowAt w g t cs) (i : Nat) : w.frozen? ⟨g, i, none⟩ = false := frozen_of_row w g i _ t h
theorem RowAt.set {w : World} {g : Nat} {t : TypeId} {cs : List Value} (h : RowAt w g t cs) (i : Nat) (v : Value) : RowAt (w.setCell ⟨g, i, none⟩ v) g t (cs.set i v) := by
  rw [RowAt, heap_setCell_same w g i _ t v h]; simp
theorem RowAt.drewN {w : World} {g : Nat} {t : TypeId} {cs : List Value} (h : RowAt w g t cs) (n : Nat) : RowAt (w.drewN n) g t cs := by
  have := (Joins.below_draws w.heap.size w n).block g h.lt
  rw [RowAt, this]; exact h
theorem RowAt.drew {w : World} {g : Nat} {t : TypeId} {cs : List Value} (h : RowAt w g t cs) : RowAt w.drew g t cs := h
theorem RowAt.only {p : Nat → Prop} {w w' : World} {g : Nat} {t : TypeId} {cs : List Value} (h : RowAt w g t cs) (ho : Only p w w') (hg : ¬ p g) : RowAt w' g t cs := by
  rw [RowAt, ho.block g h.lt hg]; exact h
theorem RowAt.below {w w' : World} {g B : Nat} {t : TypeId} {cs : List Value} (h : RowAt w g t cs) (hb : Below B w w') (hg : g < B) : RowAt w' g t cs := by
  rw [RowAt, hb.block g hg]; exact h
theorem RowAt.new (w : World) (t : TypeId) (cs : List Value) : RowAt (w.alloc (.cells cs.toArray t)) w.heap.size t cs := heap_alloc_new w _
theorem u32_cell {w : World} {g : Nat} {t : TypeId} {l : List Nat} (h : RowAt w g t (u32v l)) (i : Nat) (hi : i < l.length) : w.cell? ⟨g, i, none⟩ = some (.int .u32 ((l.getD i 0 : Nat) : Int)) := by
  rw [h.cell, u32v, List.getElem?_map, List.getElem?_eq_getElem hi, List.getD_eq_getElem?_getD, List.getElem?_eq_getElem hi]; rfl

def add2 (a b : Nat) : Nat := (a + b) % 4294967296
theorem add2_lt (a b : Nat) : add2 a b < 4294967296 := Nat.mod_lt _ (by decide)
theorem add2_int (a b : Nat) : ((a : Int) + (b : Int)) % 4294967296 = ((add2 a b : Nat) : Int) := by unfold add2; omega
theorem xor_lt {a b : Nat} (ha : a < 4294967296) (hb : b < 4294967296) : a ^^^ b < 4294967296 := Nat.xor_lt_two_pow (n := 32) ha hb

def stir4 (a b c d x y : Nat) : Nat × Nat × Nat × Nat :=
  let a1 := add2 a (add2 b x)
  let d1 := rl (d ^^^ a1) 16
  let c1 := add2 c d1
  let b1 := rl (b ^^^ c1) 20
  let a2 := add2 a1 (add2 b1 y)
  let d2 := rl (d1 ^^^ a2) 24
  let c2 := add2 c1 d2
  let b2 := rl (b1 ^^^ c2) 25
  (a2, b2, c2, d2)
def stirL (l : List Nat) (a b c d x y : Nat) : List Nat :=
  let q := stir4 (l.getD a 0) (l.getD b 0) (l.getD c 0) (l.getD d 0) x y
  (((l.set a q.1).set b q.2.1).set c q.2.2.1).set d q.2.2.2

set_option maxRecDepth 100000 in
set_option maxHeartbeats 4000000 in
theorem stir_any (g a b c d x y : Nat) (l : List Nat) (w : World) (hl : l.length = 16) (h32 : W32 l) (hx : x < 4294967296) (hy : y < 4294967296) (hr : RowAt w g 134 (u32v l))
    (ha : a < 16) (hb : b < 16) (hc : c < 16) (hd : d < 16) (hab : ¬ a = b) (hac : ¬ a = c) (had : ¬ a = d) (hbc : ¬ b = c) (hbd : ¬ b = d) (hcd : ¬ c = d) :
    Calls Tryd.prog 95 #[.pointer (some ⟨g, 0, none⟩), .int .i64 (a : Int), .int .i64 (b : Int), .int .i64 (c : Int), .int .i64 (d : Int), .int .u32 (x : Int), .int .u32 (y : Int)] w
      fun e w' => e = .returned (.tuple #[]) ∧ RowAt w' g 134 (u32v (stirL l a b c d x y)) ∧ Only (· = g) w w' := by
  have ca := u32_cell hr a (by omega)
  have cb := u32_cell hr b (by omega)
  have cc := u32_cell hr c (by omega)
  have cd := u32_cell hr d (by omega)
  have ga := h32.getD a
  have gb := h32.getD b
  have gc := h32.getD c
  have gd := h32.getD d
  have HR := hide hr
  have za := hr.frozen a
  have zb := hr.frozen b
  have zc := hr.frozen c
  have zd := hr.frozen d
  clear hr
  have HE : Hid (stirL l a b c d x y = (((l.set a (stir4 (l.getD a 0) (l.getD b 0) (l.getD c 0) (l.getD d 0) x y).1).set b (stir4 (l.getD a 0) (l.getD b 0) (l.getD c 0) (l.getD d 0) x y).2.1).set c (stir4 (l.getD a 0) (l.getD b 0) (l.getD c 0) (l.getD d 0) x y).2.2.1).set d (stir4 (l.getD a 0) (l.getD b 0) (l.getD c 0) (l.getD d 0) x y).2.2.2) := rfl
  generalize l.getD a 0 = va at *
  generalize l.getD b 0 = vb at *
  generalize l.getD c 0 = vc at *
  generalize l.getD d 0 = vd at *
  obtain ⟨s1, e1⟩ : ∃ s, s = add2 vb x := ⟨_, rfl⟩
  have f1 := add2_int vb x
  rw [← e1] at f1
  obtain ⟨a1, e2⟩ : ∃ s, s = add2 va s1 := ⟨_, rfl⟩
  have f2 := add2_int va s1
  rw [← e2] at f2
  have l2 : a1 < 4294967296 := e2 ▸ add2_lt _ _
  have f3 := u32_xor_nat vd a1 gd l2
  have l3 := xor_lt gd l2
  obtain ⟨x1, e3⟩ : ∃ s, s = vd ^^^ a1 := ⟨_, rfl⟩
  rw [← e3] at f3 l3
  obtain ⟨d1, e4⟩ : ∃ s, s = rl x1 16 := ⟨_, rfl⟩
  have l4 : d1 < 4294967296 := e4 ▸ rl_lt _ _ (by decide) l3
  obtain ⟨c1, e5⟩ : ∃ s, s = add2 vc d1 := ⟨_, rfl⟩
  have f5 := add2_int vc d1
  rw [← e5] at f5
  have l5 : c1 < 4294967296 := e5 ▸ add2_lt _ _
  have f6 := u32_xor_nat vb c1 gb l5
  have l6 := xor_lt gb l5
  obtain ⟨x2, e6⟩ : ∃ s, s = vb ^^^ c1 := ⟨_, rfl⟩
  rw [← e6] at f6 l6
  obtain ⟨b1, e7⟩ : ∃ s, s = rl x2 20 := ⟨_, rfl⟩
  have l7 : b1 < 4294967296 := e7 ▸ rl_lt _ _ (by decide) l6
  obtain ⟨s2, e8⟩ : ∃ s, s = add2 b1 y := ⟨_, rfl⟩
  have f8 := add2_int b1 y
  rw [← e8] at f8
  obtain ⟨a2, e9⟩ : ∃ s, s = add2 a1 s2 := ⟨_, rfl⟩
  have f9 := add2_int a1 s2
  rw [← e9] at f9
  have l9 : a2 < 4294967296 := e9 ▸ add2_lt _ _
  have f10 := u32_xor_nat d1 a2 l4 l9
  have l10 := xor_lt l4 l9
  obtain ⟨x3, e10⟩ : ∃ s, s = d1 ^^^ a2 := ⟨_, rfl⟩
  rw [← e10] at f10 l10
  obtain ⟨d2, e11⟩ : ∃ s, s = rl x3 24 := ⟨_, rfl⟩
  have l11 : d2 < 4294967296 := e11 ▸ rl_lt _ _ (by decide) l10
  obtain ⟨c2, e12⟩ : ∃ s, s = add2 c1 d2 := ⟨_, rfl⟩
  have f12 := add2_int c1 d2
  rw [← e12] at f12
  have l12 : c2 < 4294967296 := e12 ▸ add2_lt _ _
  have f13 := u32_xor_nat b1 c2 l7 l12
  have l13 := xor_lt l7 l12
  obtain ⟨x4, e13⟩ : ∃ s, s = b1 ^^^ c2 := ⟨_, rfl⟩
  rw [← e13] at f13 l13
  obtain ⟨b2, e14⟩ : ∃ s, s = rl x4 25 := ⟨_, rfl⟩
  have l14 : b2 < 4294967296 := e14 ▸ rl_lt _ _ (by decide) l13
  have HS : Hid (stir4 va vb vc vd x y = (a2, b2, c2, d2)) := by
    show _ = _
    subst e14 e13 e12 e11 e10 e9 e8 e7 e6 e5 e4 e3 e2 e1
    rfl
  have HR1 : ∀ w, Calls Tryd.prog 94 #[.int .u32 (x1 : Int), .int .i64 (-16)] w fun e w' => e = .returned (.int .u32 (d1 : Int)) ∧ w = w' := fun w => e4 ▸ rotr16 x1 w l3
  have HR2 : ∀ w, Calls Tryd.prog 94 #[.int .u32 (x2 : Int), .int .i64 (-12)] w fun e w' => e = .returned (.int .u32 (b1 : Int)) ∧ w = w' := fun w => e7 ▸ rotr12 x2 w l6
  have HR3 : ∀ w, Calls Tryd.prog 94 #[.int .u32 (x3 : Int), .int .i64 (-8)] w fun e w' => e = .returned (.int .u32 (d2 : Int)) ∧ w = w' := fun w => e11 ▸ rotr8 x3 w l10
  have HR4 : ∀ w, Calls Tryd.prog 94 #[.int .u32 (x4 : Int), .int .i64 (-7)] w fun e w' => e = .returned (.int .u32 (b2 : Int)) ∧ w = w' := fun w => e14 ▸ rotr7 x4 w l13
  have K1 := hide HR1
  have K2 := hide HR2
  have K3 := hide HR3
  have K4 := hide HR4
  clear HR1 HR2 HR3 HR4 e1 e2 e3 e4 e5 e6 e7 e8 e9 e10 e11 e12 e13 e14 l2 l3 l4 l5 l6 l7 l9 l10 l11 l12 l13 l14 ga gb gc gd h32 hx hy
  have ba : (a : Int) < 16 := by omega
  have bb : (b : Int) < 16 := by omega
  have bc : (c : Int) < 16 := by omega
  have bd : (d : Int) < 16 := by omega
  clear ha hb hc hd
  go_enter Tryd.func95, Tryd.ntmps95
  go_wp2_with fail
  go_quiet (fail)
  go_wp2_with fail
  refine (unhide K1 _).mono ?_
  rintro e w1 ⟨rfl, rfl⟩
  clear K1
  go_wp2_with fail
  refine (unhide K2 _).mono ?_
  rintro e w1 ⟨rfl, rfl⟩
  clear K2
  go_wp2_with fail
  refine (unhide K3 _).mono ?_
  rintro e w1 ⟨rfl, rfl⟩
  clear K3
  go_wp2_with fail
  refine (unhide K4 _).mono ?_
  rintro e w1 ⟨rfl, rfl⟩
  clear K4
  go_wp2_with fail
  have na := (RowAt.drewN (unhide HR) nq)
  have OO := hide (Only.drewN (Only.refl (· = g) w) nq)
  have HR2 := hide na
  have ya := (RowAt.drewN (unhide HR) nq).frozen a
  have yb := (RowAt.drewN (unhide HR) nq).frozen b
  have yc := (RowAt.drewN (unhide HR) nq).frozen c
  have yd := (RowAt.drewN (unhide HR) nq).frozen d
  have ka : (w.drewN nq).cell? ⟨g, a, none⟩ = some (.int .u32 (va : Int)) := by simpa using ca
  have kb : (w.drewN nq).cell? ⟨g, b, none⟩ = some (.int .u32 (vb : Int)) := by simpa using cb
  have kc : (w.drewN nq).cell? ⟨g, c, none⟩ = some (.int .u32 (vc : Int)) := by simpa using cc
  have kd : (w.drewN nq).cell? ⟨g, d, none⟩ = some (.int .u32 (vd : Int)) := by simpa using cd
  clear na ca cb cc cd za zb zc zd HR
  generalize w.drewN nq = w1 at *
  have hba : ¬ b = a := fun e => hab e.symm
  have hca : ¬ c = a := fun e => hac e.symm
  have hda : ¬ d = a := fun e => had e.symm
  have hcb : ¬ c = b := fun e => hbc e.symm
  have hdb : ¬ d = b := fun e => hbd e.symm
  have hdc : ¬ d = c := fun e => hcd e.symm
  go_region
  go_end0
  refine ⟨rfl, ?_, ?_⟩
  · rw [unhide HE, unhide HS]
    have r1 := (((unhide HR2).set a (.int .u32 (a2 : Int))).set b (.int .u32 (b2 : Int))).set c (.int .u32 (c2 : Int))
    have r2 := r1.set d (.int .u32 (d2 : Int))
    rw [u32v_set, u32v_set, u32v_set, u32v_set] at r2
    exact r2.drew
  · exact (((((unhide OO).set g a _ rfl).set g b _ rfl).set g c _ rfl).set g d _ rfl).drew
theorem stirL_len (l : List Nat) (a b c d x y : Nat) : (stirL l a b c d x y).length = l.length := by simp [stirL]
theorem stir4_lt {a b c d x y : Nat} (ha : a < 4294967296) (hb : b < 4294967296) (hc : c < 4294967296) (hd : d < 4294967296) :
    (stir4 a b c d x y).1 < 4294967296 ∧ (stir4 a b c d x y).2.1 < 4294967296 ∧ (stir4 a b c d x y).2.2.1 < 4294967296 ∧ (stir4 a b c d x y).2.2.2 < 4294967296 := by
  have l2 := add2_lt a (add2 b x)
  have l4 := rl_lt _ 16 (by decide) (xor_lt hd l2)
  have l5 := add2_lt c (rl (d ^^^ add2 a (add2 b x)) 16)
  have l7 := rl_lt _ 20 (by decide) (xor_lt hb l5)
  have l9 := add2_lt (add2 a (add2 b x)) (add2 (rl (b ^^^ add2 c (rl (d ^^^ add2 a (add2 b x)) 16)) 20) y)
  have l11 := rl_lt _ 24 (by decide) (xor_lt l4 l9)
  exact ⟨l9, rl_lt _ 25 (by decide) (xor_lt l7 (add2_lt _ _)), add2_lt _ _, l11⟩
theorem stirL_32 {l : List Nat} (h : W32 l) (a b c d x y : Nat) : W32 (stirL l a b c d x y) := by
  obtain ⟨h1, h2, h3, h4⟩ := stir4_lt (x := x) (y := y) (h.getD a) (h.getD b) (h.getD c) (h.getD d)
  exact (((h.set a h1).set b h2).set c h3).set d h4
end Go.Proofs.YtbnfilhilgjnfaaDoor
