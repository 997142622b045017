/- Rows of texts and of flags: how they are read and written; a region's ways joined. -/
import Derived.Test.YtdnbhomjfgpcfaaDoorWid1
import Derived.Test.YtdnbhomjfgpcfaaDoorPrn
import Derived.Deep.OwnRows
namespace Go.Proofs.YtdnbhomjfgpcfaaDoor
set_option linter.unusedVariables false
set_option linter.unusedSimpArgs false
open Go.ChangeShapes Go.WideShapes Go.ChangeAt Go.RowKit Go.Joins Go.Deep

theorem anyU_two {P : Program} {ops : Array Oper} {Q : Exit → Act → World → Prop} {md : Region.Mode} {S : World → Prop} {hd : Nat → Bool} {i j : Nat} {oi oj : Oper} {fuel : Nat} {listed : Array Bool} {a : Act} {w : World} (hr : Region.ready md ops listed = [i, j]) (hoi : ops[i]? = some oi) (hoj : ops[j]? = some oj)
    (hi : ∀ K' : Act → World → Prop, Shut (∀ a w, (hd i = true → S w) → wpAnyT P md ops Q S hd fuel (listed.setIfInBounds i true) a w → K' a w) → if Region.wanted oi (yielded ops a.tmps) = true then Oper.wp P oi a w K' Q else K' (a.put oi.dst undef) w)
    (hj : ∀ K' : Act → World → Prop, Shut (∀ a w, (hd j = true → S w) → wpAnyT P md ops Q S hd fuel (listed.setIfInBounds j true) a w → K' a w) → if Region.wanted oj (yielded ops a.tmps) = true then Oper.wp P oj a w K' Q else K' (a.put oj.dst undef) w) :
    wpAnyT P md ops Q S hd (fuel + 1) listed a w := by
  refine ⟨fun h0 => absurd (hr ▸ h0) (by simp), fun k hk => ?_⟩
  rw [hr] at hk
  rcases List.mem_cons.1 hk with rfl | hk
  · exact wpOp_step hoi (fun K' hK => hi K' (fun a w hS hW => hK a w ⟨hS, hW⟩))
  · obtain rfl := List.mem_singleton.1 hk
    exact wpOp_step hoj (fun K' hK => hj K' (fun a w hS hW => hK a w ⟨hS, hW⟩))
theorem anyT_three {P : Program} {ops : Array Oper} {Q : Exit → Act → World → Prop} {md : Region.Mode} {S : World → Prop} {hd : Nat → Bool} {i j l : Nat} {oi oj ol : Oper} {fuel : Nat} {listed : Array Bool} {a : Act} {w : World} (hr : Region.ready md ops listed = [i, j, l]) (hoi : ops[i]? = some oi) (hoj : ops[j]? = some oj) (hol : ops[l]? = some ol)
    (hi : ∀ K' : Act → World → Prop, Shut (∀ a w, (hd i = true → S w) → wpAnyT P md ops Q S hd fuel (listed.setIfInBounds i true) a w → K' a w) → if Region.wanted oi (yielded ops a.tmps) = true then Oper.wp P oi a w K' Q else K' (a.put oi.dst undef) w)
    (hj : ∀ K' : Act → World → Prop, Shut (∀ a w, (hd j = true → S w) → wpAnyT P md ops Q S hd fuel (listed.setIfInBounds j true) a w → K' a w) → if Region.wanted oj (yielded ops a.tmps) = true then Oper.wp P oj a w K' Q else K' (a.put oj.dst undef) w)
    (hl : ∀ K' : Act → World → Prop, Shut (∀ a w, (hd l = true → S w) → wpAnyT P md ops Q S hd fuel (listed.setIfInBounds l true) a w → K' a w) → if Region.wanted ol (yielded ops a.tmps) = true then Oper.wp P ol a w K' Q else K' (a.put ol.dst undef) w) :
    wpAnyT P md ops Q S hd (fuel + 1) listed a w := by
  refine ⟨fun h0 => absurd (hr ▸ h0) (by simp), fun k hk => ?_⟩
  rw [hr] at hk
  rcases List.mem_cons.1 hk with rfl | hk
  · exact wpOp_step hoi (fun K' hK => hi K' (fun a w hS hW => hK a w ⟨hS, hW⟩))
  · rcases List.mem_cons.1 hk with rfl | hk
    · exact wpOp_step hoj (fun K' hK => hj K' (fun a w hS hW => hK a w ⟨hS, hW⟩))
    · obtain rfl := List.mem_singleton.1 hk
      exact wpOp_step hol (fun K' hK => hl K' (fun a w hS hW => hK a w ⟨hS, hW⟩))
/-- a region's ways end alike -/
theorem reg_post {P : Program} {c : Code} {Q : Exit → Act → World → Prop} {a : Act} {w : World} (R : Act → World → Prop) (h1 : c.wp P (fun e a w => e = .normal ∧ R a w) a w) (h2 : ∀ a w, R a w → Q .normal a w) : c.wp P Q a w :=
  Code.wp_mono (fun e a w h => by obtain ⟨rfl, h⟩ := h; exact h2 a w h) h1
theorem own_rd2 {w : World} {B e n : Nat} {v : Value} {xs : List Value} (h : w.ownsRow B e 1 v n xs) {i : Nat} {u : Value} (hu : xs[i]? = some u) : ∃ g c, v = .slice (some ⟨g, 0, none⟩) n c ∧ w.cell? ⟨g, i, none⟩ = some u ∧ w.frozen? ⟨g, i, none⟩ = false ∧ B ≤ g ∧ g < w.heap.size ∧ i < n ∧ n ≤ c := by
  have hlt := (List.getElem?_eq_some_iff.1 hu).1
  rw [h.1, Nat.mul_one] at hlt
  rcases h.2 with ⟨_, h0⟩ | ⟨g, cap, cur, rfl, e2, e3, e4, e5, e6, e7⟩
  · omega
  · refine ⟨g, cap, rfl, ?_, frozen_of_row w g i _ e e3, e2, (Array.getElem?_eq_some_iff.1 e3).1, hlt, e4⟩
    have := World.ownsRow.cells h (g := g) rfl i u hu
    simpa [Addr.add_lit] using this
theorem own_blk {w : World} {B e n : Nat} {v : Value} {xs : List Value} (h : w.ownsRow B e 1 v n xs) {g : Nat} (hg : g < B) : v.ownBlock ≠ some g := by
  intro e1
  rcases h.2 with ⟨rfl, h0⟩ | ⟨g', cap, cur, rfl, e2, _⟩
  · cases e1
  · have : g' = g := by simpa [Value.ownBlock] using e1
    omega
theorem own_set_other {w : World} {B e n : Nat} {v : Value} {xs : List Value} (h : w.ownsRow B e 1 v n xs) {g i : Nat} {u : Value} (hg : v.ownBlock ≠ some g) : (w.setCell ⟨g, i, none⟩ u).ownsRow B e 1 v n xs := ownsRow_setCell_other h (a := ⟨g, i, none⟩) hg u
/-- two own rows of unlike elements are two -/
theorem own_two {w : World} {B B' e e' n n' : Nat} {v v' : Value} {xs xs' : List Value} (h : w.ownsRow B e 1 v n xs) (h' : w.ownsRow B' e' 1 v' n' xs') (hne : e ≠ e') {g : Nat} (hg : v.ownBlock = some g) : v'.ownBlock ≠ some g := by
  intro hg'
  rcases h.2 with ⟨rfl, _⟩ | ⟨g1, c1, cur1, rfl, _, e1, _⟩
  · cases hg
  · rcases h'.2 with ⟨rfl, _⟩ | ⟨g2, c2, cur2, rfl, _, e2, _⟩
    · cases hg'
    · have a1 : g1 = g := by simpa [Value.ownBlock] using hg
      have a2 : g2 = g := by simpa [Value.ownBlock] using hg'
      subst a1 a2
      rw [e1] at e2
      injection e2 with e2
      injection e2 with _ e2
      exact hne e2
/-- texts and flags as cells -/
def sS (P : List (List (List UInt8))) : List Value := (P.map txB).map .string
def bS (D : List Bool) : List Value := D.map .bool
theorem sS_at {P : List (List (List UInt8))} {i : Nat} {q : List (List UInt8)} (h : P[i]? = some q) : (sS P)[i]? = some (.string (txB q)) := by simp [sS, h]
theorem bS_at {D : List Bool} {i : Nat} {b : Bool} (h : D[i]? = some b) : (bS D)[i]? = some (.bool b) := by simp [bS, h]
theorem sS_len (P : List (List (List UInt8))) : (sS P).length = P.length := by simp [sS]
theorem bS_len (D : List Bool) : (bS D).length = D.length := by simp [bS]
theorem sS_set (P : List (List (List UInt8))) (i : Nat) (q : List (List UInt8)) : (sS P).set i (.string (txB q)) = sS (P.set i q) := by simp [sS, List.map_set]
theorem bS_set (D : List Bool) (i : Nat) (b : Bool) : (bS D).set i (.bool b) = bS (D.set i b) := by simp [bS, List.map_set]
theorem sS_rep (n : Nat) : List.replicate n (Value.string ByteArray.empty) = sS (List.replicate n []) := by simp [sS, txB_nil]
theorem bS_rep (n : Nat) : List.replicate n (Value.bool false) = bS (List.replicate n false) := by simp [bS]
/-- a wide edit in memory -/
structure Wd (w : World) (B : Nat) (vP vD : Value) (P : List (List (List UInt8))) (D : List Bool) : Prop where
  p : w.ownsRow B 9 1 vP P.length (sS P)
  d : w.ownsRow B 4 1 vD D.length (bS D)
theorem Wd.call {w w' : World} {B : Nat} {vP vD : Value} {P : List (List (List UInt8))} {D : List Bool} (h : Wd w B vP vD P D) (hb : Below w.heap.size w w') : Wd w' B vP vD P D := ⟨own_call h.p hb, own_call h.d hb⟩
theorem Wd.drew {w : World} {B : Nat} {vP vD : Value} {P : List (List (List UInt8))} {D : List Bool} (h : Wd w B vP vD P D) : Wd w.drew B vP vD P D := ⟨h.p, h.d⟩
theorem Wd.base {w : World} {B B' : Nat} {vP vD : Value} {P : List (List (List UInt8))} {D : List Bool} (h : Wd w B vP vD P D) (hb : B' ≤ B) : Wd w B' vP vD P D := ⟨own_base h.p hb, own_base h.d hb⟩
/-- a store into a block that is not its own -/
theorem Wd.other {w : World} {B : Nat} {vP vD : Value} {P : List (List (List UInt8))} {D : List Bool} (h : Wd w B vP vD P D) {g i : Nat} {u : Value} (h1 : vP.ownBlock ≠ some g) (h2 : vD.ownBlock ≠ some g) : Wd (w.setCell ⟨g, i, none⟩ u) B vP vD P D := ⟨own_set_other h.p h1, own_set_other h.d h2⟩
theorem Wd.row_ne {w : World} {B g t : Nat} {cs : List Value} {vP vD : Value} {P : List (List (List UInt8))} {D : List Bool} (h : Wd w B vP vD P D) (hr : RowAt w g t cs) (h9 : 9 ≠ t) (h4 : 4 ≠ t) : vP.ownBlock ≠ some g ∧ vD.ownBlock ≠ some g := ⟨tag_ne h.p hr h9, tag_ne h.d hr h4⟩
theorem Wd.set_p {w : World} {B g c : Nat} {vD : Value} {P : List (List (List UInt8))} {D : List Bool} (h : Wd w B (.slice (some ⟨g, 0, none⟩) P.length c) vD P D) (i : Nat) (q : List (List UInt8)) (hi : i < P.length) : Wd (w.setCell ⟨g, i, none⟩ (.string (txB q))) B (.slice (some ⟨g, 0, none⟩) P.length c) vD (P.set i q) D := by
  have h1 := own_set h.p i (.string (txB q)) hi
  rw [sS_set] at h1
  refine ⟨by rw [List.length_set]; exact h1, own_set_other h.d (own_two h.p h.d (by decide) rfl)⟩
theorem Wd.set_d {w : World} {B g c : Nat} {vP : Value} {P : List (List (List UInt8))} {D : List Bool} (h : Wd w B vP (.slice (some ⟨g, 0, none⟩) D.length c) P D) (i : Nat) (b : Bool) (hi : i < D.length) : Wd (w.setCell ⟨g, i, none⟩ (.bool b)) B vP (.slice (some ⟨g, 0, none⟩) D.length c) P (D.set i b) := by
  have h1 := own_set h.d i (.bool b) hi
  rw [bS_set] at h1
  refine ⟨own_set_other h.p (own_two h.d h.p (by decide) rfl), by rw [List.length_set]; exact h1⟩
theorem Wd.rd_p {w : World} {B : Nat} {vP vD : Value} {P : List (List (List UInt8))} {D : List Bool} (h : Wd w B vP vD P D) {i : Nat} {q : List (List UInt8)} (hq : P[i]? = some q) : ∃ g c, vP = .slice (some ⟨g, 0, none⟩) P.length c ∧ w.cell? ⟨g, i, none⟩ = some (.string (txB q)) ∧ w.frozen? ⟨g, i, none⟩ = false ∧ B ≤ g ∧ g < w.heap.size ∧ i < P.length ∧ P.length ≤ c := own_rd2 h.p (sS_at hq)
theorem Wd.rd_d {w : World} {B : Nat} {vP vD : Value} {P : List (List (List UInt8))} {D : List Bool} (h : Wd w B vP vD P D) {i : Nat} {b : Bool} (hq : D[i]? = some b) : ∃ g c, vD = .slice (some ⟨g, 0, none⟩) D.length c ∧ w.cell? ⟨g, i, none⟩ = some (.bool b) ∧ w.frozen? ⟨g, i, none⟩ = false ∧ B ≤ g ∧ g < w.heap.size ∧ i < D.length ∧ D.length ≤ c := own_rd2 h.d (bS_at hq)
theorem txB_le {q : List (List UInt8)} (h : Cps q) : (txB q).size ≤ 4 * q.length := by
  by_cases e : q = []
  · rw [e]; decide
  · have hg : Good ⟨2, (q.length : Int), txB q⟩ := ⟨by have := List.length_pos_iff.2 e; show (1 : Int) ≤ (q.length : Int); omega, .inr (.inr ⟨rfl, q, tx_txB h, rfl⟩)⟩
    have := hg.size
    have h3 : (((txB q).size : Nat) : Int) ≤ 4 * (q.length : Int) := this
    omega
theorem wPre_long : ∀ (P : List (List (List UInt8))) (D : List Bool) (i : Nat) (q : List (List UInt8)), P[i]? = some q → P.length = D.length + 1 → q.length ≤ (wAts P D).length
  | [], _, i, q, h, _ => by simp at h
  | r :: P, [], 0, q, h, _ => by obtain rfl : r = q := by simpa using h
                                 simp [wAts]
  | r :: P, [], i + 1, q, h, k => by
    have : P = [] := by simpa using k
    subst this
    simp at h
  | r :: P, b :: D, 0, q, h, _ => by obtain rfl : r = q := by simpa using h
                                     simp [wAts]
  | r :: P, b :: D, i + 1, q, h, k => by
    have := wPre_long P D i q (by simpa using h) (by simpa using k)
    simp only [wAts, List.length_append, List.length_cons]
    omega
theorem txB_one (c : List UInt8) : (⟨c.toArray⟩ : ByteArray) = txB [c] := by simp [txB]
theorem infoStr : ∃ i, Tryd.prog.info? 9 = some i ∧ i.zero = some (.string ⟨#[]⟩) ∧ i.size = 1 ∧ i.bytes = 16 := info_parts (by kernel_rfl)
theorem infoBoo : ∃ i, Tryd.prog.info? 4 = some i ∧ i.zero = some (.bool false) ∧ i.size = 1 ∧ i.bytes = 1 := info_parts (by kernel_rfl)
/-- what has been made so far -/
structure Mk3 (w0 w : World) (n : Nat) (p d x : Option Nat) : Prop where
  bel : Below w0.heap.size w0 w
  p : ∀ g, p = some g → RowAt w g 9 (sS (List.replicate (n + 1) [])) ∧ w0.heap.size ≤ g
  d : ∀ g, d = some g → RowAt w g 4 (bS (List.replicate n false)) ∧ w0.heap.size ≤ g
  x : ∀ g, x = some g → RowAt w g 100 [.slice none 0 0, .slice none 0 0] ∧ w0.heap.size ≤ g
theorem Mk3.start (w : World) (n : Nat) : Mk3 w w.drew n none none none := ⟨(Below.refl _ _).drew, (fun _ h => by cases h), (fun _ h => by cases h), (fun _ h => by cases h)⟩
theorem Mk3.more {w0 w : World} {n : Nat} {p d x : Option Nat} (h : Mk3 w0 w n p d x) (o : Obj) : Mk3 w0 (w.alloc o) n p d x :=
  have hb : Below w.heap.size w (w.alloc o) := (Below.refl _ _).alloc (Nat.le_refl _) _
  ⟨h.bel.trans (hb.mono h.bel.size), fun g e => ⟨(h.p g e).1.below hb (h.p g e).1.lt, (h.p g e).2⟩, fun g e => ⟨(h.d g e).1.below hb (h.d g e).1.lt, (h.d g e).2⟩, fun g e => ⟨(h.x g e).1.below hb (h.x g e).1.lt, (h.x g e).2⟩⟩
theorem Mk3.wpP {w0 W : World} {n : Nat} {d x : Option Nat} {o : Oper} {a : Act} {K : Act → World → Prop} {Q : Exit → Act → World → Prop} (HM : Mk3 w0 W n none d x) (l c : Operand) (hop : o.op = Op.makeSlice 61 l c) (hl : a.eval l = .int .i64 ((n + 1 : Nat) : Int)) (hc : a.eval c = .int .i64 ((n + 1 : Nat) : Int)) (hn : n ≤ 1099511627776)
    (h : ∀ g w', Mk3 w0 w' n (some g) d x → K (a.put o.dst (.slice (some ⟨g, 0, none⟩) (n + 1) (n + 1))) w') : o.wp Tryd.prog a W K Q := by
  obtain ⟨i0, hi, hz, hsz, hb⟩ := infoStr
  obtain ⟨m, hm⟩ : ∃ m, n + 1 = m := ⟨_, rfl⟩
  rw [hm] at hl hc
  have hrun := run_make_row (P := Tryd.prog) 61 9 i0 _ Tryd.underlying61 hi hz hsz rfl .i64 .i64 m (by rw [hb]; omega) (by omega) W
  unfold Oper.wp
  simp [execOp, hop, hl, hc, hrun, Result.andThen]
  subst hm
  refine h W.heap.size _ ?_
  have h1 := HM.more (.cells (madeCells #[.string ByteArray.empty] (n + 1)) 9)
  refine ⟨h1.bel, fun g e => ?_, h1.d, h1.x⟩
  obtain rfl := Option.some.inj e
  refine ⟨?_, HM.bel.size⟩
  have := RowAt.new W 9 (madeCells #[.string ByteArray.empty] (n + 1)).toList
  rw [Array.toArray_toList, toList_madeCells_one, sS_rep] at this
  exact this
theorem Mk3.wpD {w0 W : World} {n : Nat} {p x : Option Nat} {o : Oper} {a : Act} {K : Act → World → Prop} {Q : Exit → Act → World → Prop} (HM : Mk3 w0 W n p none x) (l c : Operand) (hop : o.op = Op.makeSlice 98 l c) (hl : a.eval l = .int .i64 ((n : Nat) : Int)) (hc : a.eval c = .int .i64 ((n : Nat) : Int)) (hn : n ≤ 1099511627776)
    (h : ∀ g w', Mk3 w0 w' n p (some g) x → K (a.put o.dst (.slice (some ⟨g, 0, none⟩) n n)) w') : o.wp Tryd.prog a W K Q := by
  obtain ⟨i0, hi, hz, hsz, hb⟩ := infoBoo
  have hrun := run_make_row (P := Tryd.prog) 98 4 i0 _ Tryd.underlying98 hi hz hsz rfl .i64 .i64 n (by rw [hb]; omega) (by omega) W
  unfold Oper.wp
  simp [execOp, hop, hl, hc, hrun, Result.andThen]
  refine h W.heap.size _ ?_
  have h1 := HM.more (.cells (madeCells #[.bool false] n) 4)
  refine ⟨h1.bel, h1.p, fun g e => ?_, h1.x⟩
  obtain rfl := Option.some.inj e
  refine ⟨?_, HM.bel.size⟩
  have := RowAt.new W 4 (madeCells #[.bool false] n).toList
  rw [Array.toArray_toList, toList_madeCells_one, bS_rep] at this
  exact this
theorem info88 : ∃ i, Tryd.prog.info? 100 = some i ∧ i.zero = some (.agg #[.slice none 0 0, .slice none 0 0]) ∧ i.size = 2 ∧ i.bytes = 48 := info_parts (by kernel_rfl)
theorem Mk3.wpX {w0 W : World} {n : Nat} {p d : Option Nat} {o : Oper} {a : Act} {K : Act → World → Prop} {Q : Exit → Act → World → Prop} (HM : Mk3 w0 W n p d none) (hop : o.op = Op.alloc 100)
    (h : ∀ g w', Mk3 w0 w' n p d (some g) → K (a.put o.dst (.pointer (some ⟨g, 0, none⟩))) w') : o.wp Tryd.prog a W K Q := by
  obtain ⟨ds, op, ty, ps, af, gd⟩ := o
  obtain rfl : op = Op.alloc 100 := hop
  go_simp
  refine h W.heap.size _ ?_
  have h1 := HM.more (.cells #[.slice none 0 0, .slice none 0 0] 100)
  refine ⟨h1.bel, h1.p, h1.d, fun g e => ?_⟩
  obtain rfl := Option.some.inj e
  exact ⟨RowAt.new W 100 [.slice none 0 0, .slice none 0 0], HM.bel.size⟩
/-- all is made -/
structure Mkd (w0 w : World) (n gP gD gW : Nat) : Prop where
  wd : Wd w w0.heap.size (.slice (some ⟨gP, 0, none⟩) (n + 1) (n + 1)) (.slice (some ⟨gD, 0, none⟩) n n) (List.replicate (n + 1) []) (List.replicate n false)
  x : RowAt w gW 100 [.slice (some ⟨gP, 0, none⟩) (n + 1) (n + 1), .slice (some ⟨gD, 0, none⟩) n n]
  gx : w0.heap.size ≤ gW
  bel : Below w0.heap.size w0 w
theorem Mk3.store {w0 W : World} {n gP gD gW : Nat} (HM : Mk3 w0 W n (some gP) (some gD) (some gW)) (hn : n ≤ 1099511627776) : Mkd w0 ((W.setCell ⟨gW, 0, none⟩ (.slice (some ⟨gP, 0, none⟩) (n + 1) (n + 1))).setCell ⟨gW, 1, none⟩ (.slice (some ⟨gD, 0, none⟩) n n)) n gP gD gW := by
  obtain ⟨p1, p2⟩ := HM.p gP rfl
  obtain ⟨d1, d2⟩ := HM.d gD rfl
  obtain ⟨x1, x2⟩ := HM.x gW rfl
  have op : W.ownsRow w0.heap.size 9 1 (.slice (some ⟨gP, 0, none⟩) (n + 1) (n + 1)) (n + 1) (sS (List.replicate (n + 1) [])) := by
    have := own_row p1 p2 (by rw [sS_len, List.length_replicate]; unfold maxLen; omega)
    rw [sS_len, List.length_replicate] at this
    exact this
  have od : W.ownsRow w0.heap.size 4 1 (.slice (some ⟨gD, 0, none⟩) n n) n (bS (List.replicate n false)) := by
    have := own_row d1 d2 (by rw [bS_len, List.length_replicate]; unfold maxLen; omega)
    rw [bS_len, List.length_replicate] at this
    exact this
  have wd : Wd W w0.heap.size (.slice (some ⟨gP, 0, none⟩) (n + 1) (n + 1)) (.slice (some ⟨gD, 0, none⟩) n n) (List.replicate (n + 1) []) (List.replicate n false) := ⟨by rw [List.length_replicate]; exact op, by rw [List.length_replicate]; exact od⟩
  obtain ⟨n1, n2⟩ := wd.row_ne x1 (by decide) (by decide)
  refine ⟨(wd.other n1 n2).other n1 n2, ?_, x2, (HM.bel.setCell (by show w0.heap.size ≤ gW; exact x2) _).setCell (by show w0.heap.size ≤ gW; exact x2) _⟩
  have := (x1.set 0 (.slice (some ⟨gP, 0, none⟩) (n + 1) (n + 1))).set 1 (.slice (some ⟨gD, 0, none⟩) n n)
  exact this
theorem Wd.cp {w : World} {B g k c : Nat} {vD : Value} {P : List (List (List UInt8))} {D : List Bool} (h : Wd w B (.slice (some ⟨g, 0, none⟩) k c) vD P D) {i : Nat} {q : List (List UInt8)} (hq : P[i]? = some q) : w.cell? ⟨g, i, none⟩ = some (.string (txB q)) ∧ w.frozen? ⟨g, i, none⟩ = false := by
  obtain ⟨g', c', e, h1, h2, _⟩ := h.rd_p hq
  cases e
  exact ⟨h1, h2⟩
theorem Wd.cd {w : World} {B g k c : Nat} {vP : Value} {P : List (List (List UInt8))} {D : List Bool} (h : Wd w B vP (.slice (some ⟨g, 0, none⟩) k c) P D) {i : Nat} {b : Bool} (hq : D[i]? = some b) : w.cell? ⟨g, i, none⟩ = some (.bool b) ∧ w.frozen? ⟨g, i, none⟩ = false := by
  obtain ⟨g', c', e, h1, h2, _⟩ := h.rd_d hq
  cases e
  exact ⟨h1, h2⟩
end Go.Proofs.YtdnbhomjfgpcfaaDoor
