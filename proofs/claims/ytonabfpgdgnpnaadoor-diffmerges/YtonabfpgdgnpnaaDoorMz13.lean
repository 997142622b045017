/- Parts of the walk: Wds, Spr. -/
import Derived.Test.YtonabfpgdgnpnaaDoorMz12
import Derived.Test.YtonabfpgdgnpnaaDoorMz05
import Derived.Test.YtonabfpgdgnpnaaDoorMz02
import Derived.Deep.OwnRows
namespace Go.Proofs.YtonabfpgdgnpnaaDoor
set_option linter.unusedVariables false
set_option linter.unusedSimpArgs false
open Go.ChangeShapes Go.WideShapes Go.ChangeAt Go.RowKit Go.Joins Go.Deep

theorem anyU_two {P : Program} {ops : Array Oper} {Q : Exit → Act → World → Prop} {md : Region.Mode} {S : World → Prop} {hd : Nat → Bool} {i j : Nat} {oi oj : Oper} {fuel : Nat} {listed : Array Bool} {a : Act} {w : World} (hr : Region.ready md ops listed = [i, j]) (hoi : ops[i]? = some oi) (hoj : ops[j]? = some oj)
    (hi : ∀ K' : Act → World → Prop, Shut (∀ a w, (hd i = true → S w) → wpAnyT P md ops Q S hd fuel (listed.setIfInBounds i true) a w → K' a w) → if Region.wanted oi (yielded ops a.tmps) = true then Oper.wp P oi a w K' Q else K' (a.put oi.dst undef) w)
    (hj : ∀ K' : Act → World → Prop, Shut (∀ a w, (hd j = true → S w) → wpAnyT P md ops Q S hd fuel (listed.setIfInBounds j true) a w → K' a w) → if Region.wanted oj (yielded ops a.tmps) = true then Oper.wp P oj a w K' Q else K' (a.put oj.dst undef) w) :
    wpAnyT P md ops Q S hd (fuel + 1) listed a w := by
  refine ⟨fun h0 => absurd (hr ▸ h0) (by simp), fun k hk => ?_⟩
  rw [hr] at hk
  rcases List.mem_cons.1 hk with rfl | hk
  · exact wpOp_step hoi (fun K' hK => hi K' (fun a w hS hW => hK a w ⟨hS, hW⟩))
  · obtain rfl := List.mem_singleton.1 hk
    exact wpOp_step hoj (fun K' hK => hj K' (fun a w hS hW => hK a w ⟨hS, hW⟩))
theorem anyT_three {P : Program} {ops : Array Oper} {Q : Exit → Act → World → Prop} {md : Region.Mode} {S : World → Prop} {hd : Nat → Bool} {i j l : Nat} {oi oj ol : Oper} {fuel : Nat} {listed : Array Bool} {a : Act} {w : World} (hr : Region.ready md ops listed = [i, j, l]) (hoi : ops[i]? = some oi) (hoj : ops[j]? = some oj) (hol : ops[l]? = some ol)
    (hi : ∀ K' : Act → World → Prop, Shut (∀ a w, (hd i = true → S w) → wpAnyT P md ops Q S hd fuel (listed.setIfInBounds i true) a w → K' a w) → if Region.wanted oi (yielded ops a.tmps) = true then Oper.wp P oi a w K' Q else K' (a.put oi.dst undef) w)
    (hj : ∀ K' : Act → World → Prop, Shut (∀ a w, (hd j = true → S w) → wpAnyT P md ops Q S hd fuel (listed.setIfInBounds j true) a w → K' a w) → if Region.wanted oj (yielded ops a.tmps) = true then Oper.wp P oj a w K' Q else K' (a.put oj.dst undef) w)
    (hl : ∀ K' : Act → World → Prop, Shut (∀ a w, (hd l = true → S w) → wpAnyT P md ops Q S hd fuel (listed.setIfInBounds l true) a w → K' a w) → if Region.wanted ol (yielded ops a.tmps) = true then Oper.wp P ol a w K' Q else K' (a.put ol.dst undef) w) :
    wpAnyT P md ops Q S hd (fuel + 1) listed a w := by
  refine ⟨fun h0 => absurd (hr ▸ h0) (by simp), fun k hk => ?_⟩
  rw [hr] at hk
  rcases List.mem_cons.1 hk with rfl | hk
  · exact wpOp_step hoi (fun K' hK => hi K' (fun a w hS hW => hK a w ⟨hS, hW⟩))
  · rcases List.mem_cons.1 hk with rfl | hk
    · exact wpOp_step hoj (fun K' hK => hj K' (fun a w hS hW => hK a w ⟨hS, hW⟩))
    · obtain rfl := List.mem_singleton.1 hk
      exact wpOp_step hol (fun K' hK => hl K' (fun a w hS hW => hK a w ⟨hS, hW⟩))
/-- a region's ways end alike -/
theorem reg_post {P : Program} {c : Code} {Q : Exit → Act → World → Prop} {a : Act} {w : World} (R : Act → World → Prop) (h1 : c.wp P (fun e a w => e = .normal ∧ R a w) a w) (h2 : ∀ a w, R a w → Q .normal a w) : c.wp P Q a w :=
  Code.wp_mono (fun e a w h => by obtain ⟨rfl, h⟩ := h; exact h2 a w h) h1
theorem own_rd2 {w : World} {B e n : Nat} {v : Value} {xs : List Value} (h : w.ownsRow B e 1 v n xs) {i : Nat} {u : Value} (hu : xs[i]? = some u) : ∃ g c, v = .slice (some ⟨g, 0, none⟩) n c ∧ w.cell? ⟨g, i, none⟩ = some u ∧ w.frozen? ⟨g, i, none⟩ = false ∧ B ≤ g ∧ g < w.heap.size ∧ i < n ∧ n ≤ c := by
  have hlt := (List.getElem?_eq_some_iff.1 hu).1
  rw [h.1, Nat.mul_one] at hlt
  rcases h.2 with ⟨_, h0⟩ | ⟨g, cap, cur, rfl, e2, e3, e4, e5, e6, e7⟩
  · omega
  · refine ⟨g, cap, rfl, ?_, frozen_of_row w g i _ e e3, e2, (Array.getElem?_eq_some_iff.1 e3).1, hlt, e4⟩
    have := World.ownsRow.cells h (g := g) rfl i u hu
    simpa [Addr.add_lit] using this
theorem own_set_other {w : World} {B e n : Nat} {v : Value} {xs : List Value} (h : w.ownsRow B e 1 v n xs) {g i : Nat} {u : Value} (hg : v.ownBlock ≠ some g) : (w.setCell ⟨g, i, none⟩ u).ownsRow B e 1 v n xs := ownsRow_setCell_other h (a := ⟨g, i, none⟩) hg u
/-- two own rows of unlike elements are two -/
theorem own_two {w : World} {B B' e e' n n' : Nat} {v v' : Value} {xs xs' : List Value} (h : w.ownsRow B e 1 v n xs) (h' : w.ownsRow B' e' 1 v' n' xs') (hne : e ≠ e') {g : Nat} (hg : v.ownBlock = some g) : v'.ownBlock ≠ some g := by
  intro hg'
  rcases h.2 with ⟨rfl, _⟩ | ⟨g1, c1, cur1, rfl, _, e1, _⟩
  · cases hg
  · rcases h'.2 with ⟨rfl, _⟩ | ⟨g2, c2, cur2, rfl, _, e2, _⟩
    · cases hg'
    · have a1 : g1 = g := by simpa [Value.ownBlock] using hg
      have a2 : g2 = g := by simpa [Value.ownBlock] using hg'
      subst a1 a2
      rw [e1] at e2
      injection e2 with e2
      injection e2 with _ e2
      exact hne e2
/-- texts and flags as cells -/
def sS (P : List (List (List UInt8))) : List Value := (P.map txB).map .string
def bS (D : List Bool) : List Value := D.map .bool
theorem sS_at {P : List (List (List UInt8))} {i : Nat} {q : List (List UInt8)} (h : P[i]? = some q) : (sS P)[i]? = some (.string (txB q)) := by simp [sS, h]
theorem bS_at {D : List Bool} {i : Nat} {b : Bool} (h : D[i]? = some b) : (bS D)[i]? = some (.bool b) := by simp [bS, h]
theorem sS_len (P : List (List (List UInt8))) : (sS P).length = P.length := by simp [sS]
theorem bS_len (D : List Bool) : (bS D).length = D.length := by simp [bS]
theorem sS_set (P : List (List (List UInt8))) (i : Nat) (q : List (List UInt8)) : (sS P).set i (.string (txB q)) = sS (P.set i q) := by simp [sS, List.map_set]
theorem bS_set (D : List Bool) (i : Nat) (b : Bool) : (bS D).set i (.bool b) = bS (D.set i b) := by simp [bS, List.map_set]
theorem sS_rep (n : Nat) : List.replicate n (Value.string ByteArray.empty) = sS (List.replicate n []) := by simp [sS, txB_nil]
theorem bS_rep (n : Nat) : List.replicate n (Value.bool false) = bS (List.replicate n false) := by simp [bS]
/-- a wide edit in memory -/
structure Wd (w : World) (B : Nat) (vP vD : Value) (P : List (List (List UInt8))) (D : List Bool) : Prop where
  p : w.ownsRow B 9 1 vP P.length (sS P)
  d : w.ownsRow B 4 1 vD D.length (bS D)
theorem Wd.call {w w' : World} {B : Nat} {vP vD : Value} {P : List (List (List UInt8))} {D : List Bool} (h : Wd w B vP vD P D) (hb : Below w.heap.size w w') : Wd w' B vP vD P D := ⟨own_call h.p hb, own_call h.d hb⟩
theorem Wd.drew {w : World} {B : Nat} {vP vD : Value} {P : List (List (List UInt8))} {D : List Bool} (h : Wd w B vP vD P D) : Wd w.drew B vP vD P D := ⟨h.p, h.d⟩
theorem Wd.base {w : World} {B B' : Nat} {vP vD : Value} {P : List (List (List UInt8))} {D : List Bool} (h : Wd w B vP vD P D) (hb : B' ≤ B) : Wd w B' vP vD P D := ⟨own_base h.p hb, own_base h.d hb⟩
/-- a store into a block that is not its own -/
theorem Wd.other {w : World} {B : Nat} {vP vD : Value} {P : List (List (List UInt8))} {D : List Bool} (h : Wd w B vP vD P D) {g i : Nat} {u : Value} (h1 : vP.ownBlock ≠ some g) (h2 : vD.ownBlock ≠ some g) : Wd (w.setCell ⟨g, i, none⟩ u) B vP vD P D := ⟨own_set_other h.p h1, own_set_other h.d h2⟩
theorem Wd.row_ne {w : World} {B g t : Nat} {cs : List Value} {vP vD : Value} {P : List (List (List UInt8))} {D : List Bool} (h : Wd w B vP vD P D) (hr : RowAt w g t cs) (h9 : 9 ≠ t) (h4 : 4 ≠ t) : vP.ownBlock ≠ some g ∧ vD.ownBlock ≠ some g := ⟨tag_ne h.p hr h9, tag_ne h.d hr h4⟩
theorem Wd.set_p {w : World} {B g c : Nat} {vD : Value} {P : List (List (List UInt8))} {D : List Bool} (h : Wd w B (.slice (some ⟨g, 0, none⟩) P.length c) vD P D) (i : Nat) (q : List (List UInt8)) (hi : i < P.length) : Wd (w.setCell ⟨g, i, none⟩ (.string (txB q))) B (.slice (some ⟨g, 0, none⟩) P.length c) vD (P.set i q) D := by
  have h1 := own_set h.p i (.string (txB q)) hi
  rw [sS_set] at h1
  refine ⟨by rw [List.length_set]; exact h1, own_set_other h.d (own_two h.p h.d (by decide) rfl)⟩
theorem Wd.set_d {w : World} {B g c : Nat} {vP : Value} {P : List (List (List UInt8))} {D : List Bool} (h : Wd w B vP (.slice (some ⟨g, 0, none⟩) D.length c) P D) (i : Nat) (b : Bool) (hi : i < D.length) : Wd (w.setCell ⟨g, i, none⟩ (.bool b)) B vP (.slice (some ⟨g, 0, none⟩) D.length c) P (D.set i b) := by
  have h1 := own_set h.d i (.bool b) hi
  rw [bS_set] at h1
  refine ⟨own_set_other h.p (own_two h.d h.p (by decide) rfl), by rw [List.length_set]; exact h1⟩
theorem Wd.rd_p {w : World} {B : Nat} {vP vD : Value} {P : List (List (List UInt8))} {D : List Bool} (h : Wd w B vP vD P D) {i : Nat} {q : List (List UInt8)} (hq : P[i]? = some q) : ∃ g c, vP = .slice (some ⟨g, 0, none⟩) P.length c ∧ w.cell? ⟨g, i, none⟩ = some (.string (txB q)) ∧ w.frozen? ⟨g, i, none⟩ = false ∧ B ≤ g ∧ g < w.heap.size ∧ i < P.length ∧ P.length ≤ c := own_rd2 h.p (sS_at hq)
theorem Wd.rd_d {w : World} {B : Nat} {vP vD : Value} {P : List (List (List UInt8))} {D : List Bool} (h : Wd w B vP vD P D) {i : Nat} {b : Bool} (hq : D[i]? = some b) : ∃ g c, vD = .slice (some ⟨g, 0, none⟩) D.length c ∧ w.cell? ⟨g, i, none⟩ = some (.bool b) ∧ w.frozen? ⟨g, i, none⟩ = false ∧ B ≤ g ∧ g < w.heap.size ∧ i < D.length ∧ D.length ≤ c := own_rd2 h.d (bS_at hq)
theorem txB_le {q : List (List UInt8)} (h : Cps q) : (txB q).size ≤ 4 * q.length := by
  by_cases e : q = []
  · rw [e]; decide
  · have hg : Good ⟨2, (q.length : Int), txB q⟩ := ⟨by have := List.length_pos_iff.2 e; show (1 : Int) ≤ (q.length : Int); omega, .inr (.inr ⟨rfl, q, tx_txB h, rfl⟩)⟩
    have := hg.size
    have h3 : (((txB q).size : Nat) : Int) ≤ 4 * (q.length : Int) := this
    omega
theorem wPre_long : ∀ (P : List (List (List UInt8))) (D : List Bool) (i : Nat) (q : List (List UInt8)), P[i]? = some q → P.length = D.length + 1 → q.length ≤ (wAts P D).length
  | [], _, i, q, h, _ => by simp at h
  | r :: P, [], 0, q, h, _ => by obtain rfl : r = q := by simpa using h
                                 simp [wAts]
  | r :: P, [], i + 1, q, h, k => by
    have : P = [] := by simpa using k
    subst this
    simp at h
  | r :: P, b :: D, 0, q, h, _ => by obtain rfl : r = q := by simpa using h
                                     simp [wAts]
  | r :: P, b :: D, i + 1, q, h, k => by
    have := wPre_long P D i q (by simpa using h) (by simpa using k)
    simp only [wAts, List.length_append, List.length_cons]
    omega
theorem chS_eq {s : ByteArray} {cs : List (List UInt8)} (h : Tx s cs) : chS s cs cs.length = cs.map (fun c => ⟨c.toArray⟩) := by
  apply List.ext_getElem?
  intro i
  unfold chS
  by_cases hi : i < cs.length
  · obtain ⟨c, hc⟩ : ∃ c, cs[i]? = some c := ⟨_, List.getElem?_eq_getElem hi⟩
    have e1 : (List.range cs.length)[i]? = some i := by simp [hi]
    rw [List.getElem?_map, e1, List.getElem?_map, hc, Option.map_some, Option.map_some, enc_at h hc]
  · rw [List.getElem?_eq_none (by simpa using hi), List.getElem?_eq_none (by simpa using hi)]
theorem txB_one (c : List UInt8) : (⟨c.toArray⟩ : ByteArray) = txB [c] := by simp [txB]
theorem chS_sS {s : ByteArray} {cs : List (List UInt8)} (h : Tx s cs) : (chS s cs cs.length).map Value.string = sS (cs.map fun c => [c]) := by
  rw [chS_eq h]
  simp only [sS, List.map_map]
  apply List.map_congr_left
  intro c _
  simp only [Function.comp_apply, txB_one]
/-- a text's code points, as a row of texts -/
theorem chars_row {s : ByteArray} {cs : List (List UInt8)} {w : World} (ht : Tx s cs) (hs : cs.length ≤ 1099511627776) :
    Calls Tryd.prog 75 #[.string s] w fun r w' => ∃ v, r = .returned v ∧ w'.ownsRow w.heap.size 9 1 v cs.length (sS (cs.map fun c => [c])) ∧ Below w.heap.size w w' := by
  refine Calls.mono (chars_any s cs w ht hs) ?_
  rintro r w' ⟨v, rfl, h1, h2⟩
  refine ⟨v, rfl, ?_, h2⟩
  unfold OwnS at h1
  rw [chS_sS ht, chS_len] at h1
  exact h1
/-- what has been made so far -/
structure Mk3 (w0 w : World) (n : Nat) (p d x : Option Nat) : Prop where
  bel : Below w0.heap.size w0 w
  p : ∀ g, p = some g → RowAt w g 9 (sS (List.replicate (n + 1) [])) ∧ w0.heap.size ≤ g
  d : ∀ g, d = some g → RowAt w g 4 (bS (List.replicate n false)) ∧ w0.heap.size ≤ g
  x : ∀ g, x = some g → RowAt w g 113 [.slice none 0 0, .slice none 0 0] ∧ w0.heap.size ≤ g
theorem Mk3.start (w : World) (n : Nat) : Mk3 w w.drew n none none none := ⟨(Below.refl _ _).drew, (fun _ h => by cases h), (fun _ h => by cases h), (fun _ h => by cases h)⟩
theorem Mk3.more {w0 w : World} {n : Nat} {p d x : Option Nat} (h : Mk3 w0 w n p d x) (o : Obj) : Mk3 w0 (w.alloc o) n p d x :=
  have hb : Below w.heap.size w (w.alloc o) := (Below.refl _ _).alloc (Nat.le_refl _) _
  ⟨h.bel.trans (hb.mono h.bel.size), fun g e => ⟨(h.p g e).1.below hb (h.p g e).1.lt, (h.p g e).2⟩, fun g e => ⟨(h.d g e).1.below hb (h.d g e).1.lt, (h.d g e).2⟩, fun g e => ⟨(h.x g e).1.below hb (h.x g e).1.lt, (h.x g e).2⟩⟩
theorem Mk3.wpP {w0 W : World} {n : Nat} {d x : Option Nat} {o : Oper} {a : Act} {K : Act → World → Prop} {Q : Exit → Act → World → Prop} (HM : Mk3 w0 W n none d x) (l c : Operand) (hop : o.op = Op.makeSlice 47 l c) (hl : a.eval l = .int .i64 ((n + 1 : Nat) : Int)) (hc : a.eval c = .int .i64 ((n + 1 : Nat) : Int)) (hn : n ≤ 1099511627776)
    (h : ∀ g w', Mk3 w0 w' n (some g) d x → K (a.put o.dst (.slice (some ⟨g, 0, none⟩) (n + 1) (n + 1))) w') : o.wp Tryd.prog a W K Q := by
  obtain ⟨i0, hi, hz, hsz, hb⟩ := infoStr
  obtain ⟨m, hm⟩ : ∃ m, n + 1 = m := ⟨_, rfl⟩
  rw [hm] at hl hc
  have hrun := run_make_row (P := Tryd.prog) 47 9 i0 _ Tryd.underlying47 hi hz hsz rfl .i64 .i64 m (by rw [hb]; omega) (by omega) W
  unfold Oper.wp
  simp [execOp, hop, hl, hc, hrun, Result.andThen]
  subst hm
  refine h W.heap.size _ ?_
  have h1 := HM.more (.cells (madeCells #[.string ByteArray.empty] (n + 1)) 9)
  refine ⟨h1.bel, fun g e => ?_, h1.d, h1.x⟩
  obtain rfl := Option.some.inj e
  refine ⟨?_, HM.bel.size⟩
  have := RowAt.new W 9 (madeCells #[.string ByteArray.empty] (n + 1)).toList
  rw [Array.toArray_toList, toList_madeCells_one, sS_rep] at this
  exact this
theorem Mk3.wpD {w0 W : World} {n : Nat} {p x : Option Nat} {o : Oper} {a : Act} {K : Act → World → Prop} {Q : Exit → Act → World → Prop} (HM : Mk3 w0 W n p none x) (l c : Operand) (hop : o.op = Op.makeSlice 111 l c) (hl : a.eval l = .int .i64 ((n : Nat) : Int)) (hc : a.eval c = .int .i64 ((n : Nat) : Int)) (hn : n ≤ 1099511627776)
    (h : ∀ g w', Mk3 w0 w' n p (some g) x → K (a.put o.dst (.slice (some ⟨g, 0, none⟩) n n)) w') : o.wp Tryd.prog a W K Q := by
  obtain ⟨i0, hi, hz, hsz, hb⟩ := infoBoo
  have hrun := run_make_row (P := Tryd.prog) 111 4 i0 _ Tryd.underlying111 hi hz hsz rfl .i64 .i64 n (by rw [hb]; omega) (by omega) W
  unfold Oper.wp
  simp [execOp, hop, hl, hc, hrun, Result.andThen]
  refine h W.heap.size _ ?_
  have h1 := HM.more (.cells (madeCells #[.bool false] n) 4)
  refine ⟨h1.bel, h1.p, fun g e => ?_, h1.x⟩
  obtain rfl := Option.some.inj e
  refine ⟨?_, HM.bel.size⟩
  have := RowAt.new W 4 (madeCells #[.bool false] n).toList
  rw [Array.toArray_toList, toList_madeCells_one, bS_rep] at this
  exact this
theorem Mk3.wpX {w0 W : World} {n : Nat} {p d : Option Nat} {o : Oper} {a : Act} {K : Act → World → Prop} {Q : Exit → Act → World → Prop} (HM : Mk3 w0 W n p d none) (hop : o.op = Op.alloc 113)
    (h : ∀ g w', Mk3 w0 w' n p d (some g) → K (a.put o.dst (.pointer (some ⟨g, 0, none⟩))) w') : o.wp Tryd.prog a W K Q := by
  obtain ⟨ds, op, ty, ps, af, gd⟩ := o
  obtain rfl : op = Op.alloc 113 := hop
  go_simp
  refine h W.heap.size _ ?_
  have h1 := HM.more (.cells #[.slice none 0 0, .slice none 0 0] 113)
  refine ⟨h1.bel, h1.p, h1.d, fun g e => ?_⟩
  obtain rfl := Option.some.inj e
  exact ⟨RowAt.new W 113 [.slice none 0 0, .slice none 0 0], HM.bel.size⟩
/-- all is made -/
structure Mkd (w0 w : World) (n gP gD gW : Nat) : Prop where
  wd : Wd w w0.heap.size (.slice (some ⟨gP, 0, none⟩) (n + 1) (n + 1)) (.slice (some ⟨gD, 0, none⟩) n n) (List.replicate (n + 1) []) (List.replicate n false)
  x : RowAt w gW 113 [.slice (some ⟨gP, 0, none⟩) (n + 1) (n + 1), .slice (some ⟨gD, 0, none⟩) n n]
  gx : w0.heap.size ≤ gW
  bel : Below w0.heap.size w0 w
theorem Mk3.store {w0 W : World} {n gP gD gW : Nat} (HM : Mk3 w0 W n (some gP) (some gD) (some gW)) (hn : n ≤ 1099511627776) : Mkd w0 ((W.setCell ⟨gW, 0, none⟩ (.slice (some ⟨gP, 0, none⟩) (n + 1) (n + 1))).setCell ⟨gW, 1, none⟩ (.slice (some ⟨gD, 0, none⟩) n n)) n gP gD gW := by
  obtain ⟨p1, p2⟩ := HM.p gP rfl
  obtain ⟨d1, d2⟩ := HM.d gD rfl
  obtain ⟨x1, x2⟩ := HM.x gW rfl
  have op : W.ownsRow w0.heap.size 9 1 (.slice (some ⟨gP, 0, none⟩) (n + 1) (n + 1)) (n + 1) (sS (List.replicate (n + 1) [])) := by
    have := own_row p1 p2 (by rw [sS_len, List.length_replicate]; unfold maxLen; omega)
    rw [sS_len, List.length_replicate] at this
    exact this
  have od : W.ownsRow w0.heap.size 4 1 (.slice (some ⟨gD, 0, none⟩) n n) n (bS (List.replicate n false)) := by
    have := own_row d1 d2 (by rw [bS_len, List.length_replicate]; unfold maxLen; omega)
    rw [bS_len, List.length_replicate] at this
    exact this
  have wd : Wd W w0.heap.size (.slice (some ⟨gP, 0, none⟩) (n + 1) (n + 1)) (.slice (some ⟨gD, 0, none⟩) n n) (List.replicate (n + 1) []) (List.replicate n false) := ⟨by rw [List.length_replicate]; exact op, by rw [List.length_replicate]; exact od⟩
  obtain ⟨n1, n2⟩ := wd.row_ne x1 (by decide) (by decide)
  refine ⟨(wd.other n1 n2).other n1 n2, ?_, x2, (HM.bel.setCell (by show w0.heap.size ≤ gW; exact x2) _).setCell (by show w0.heap.size ≤ gW; exact x2) _⟩
  have := (x1.set 0 (.slice (some ⟨gP, 0, none⟩) (n + 1) (n + 1))).set 1 (.slice (some ⟨gD, 0, none⟩) n n)
  exact this
end Go.Proofs.YtonabfpgdgnpnaaDoor

namespace Go.Proofs.YtonabfpgdgnpnaaDoor
set_option linter.unusedVariables false
set_option linter.unusedSimpArgs false
open Go.ChangeShapes Go.WideShapes Go.ChangeAt Go.RowKit Go.Joins Go.Deep

/-- what lies there while an edit is spread out -/
structure SpW (w wr : World) (bb gP gD gW n m : Nat) (P : List (List (List UInt8))) (D : List Bool) (at_ : Nat) (x : List At) : Prop where
  wd : Wd wr w.heap.size (.slice (some ⟨gP, 0, none⟩) m m) (.slice (some ⟨gD, 0, none⟩) n n) P D
  bx : RowAt wr gW 113 [.slice (some ⟨gP, 0, none⟩) m m, .slice (some ⟨gD, 0, none⟩) n n]
  r : RowAt wr bb 113 [.slice none 0 0, .slice none 0 0]
  ne : gW ≠ bb
  sp : SpI n P D at_ x
  bel : Below w.heap.size w wr
theorem SpW.call {w wr wr' : World} {bb gP gD gW n m : Nat} {P : List (List (List UInt8))} {D : List Bool} {at_ : Nat} {x : List At} (h : SpW w wr bb gP gD gW n m P D at_ x) (hb : Below wr.heap.size wr wr') : SpW w wr' bb gP gD gW n m P D at_ x :=
  ⟨h.wd.call hb, h.bx.below hb h.bx.lt, h.r.below hb h.r.lt, h.ne, h.sp, h.bel.trans (hb.mono h.bel.size)⟩
theorem SpW.put {w wr : World} {bb gP gD gW n m : Nat} {P : List (List (List UInt8))} {D : List Bool} {at_ : Nat} {x : List At} (h : SpW w wr bb gP gD gW n m P D at_ x) (hm : n + 1 = m) {q cs : List (List UInt8)} (hq : P[at_]? = some q) (hc : Cps cs) : SpW w (wr.setCell ⟨gP, at_, none⟩ (.string (txB (q ++ cs)))) bb gP gD gW n m (P.set at_ (q ++ cs)) D at_ (x ++ cs.map .p) := by
  have hl : P.length = m := by rw [h.sp.pl, hm]
  have wd := h.wd
  rw [← hl] at wd
  have h1 := wd.set_p at_ (q ++ cs) (List.getElem?_eq_some_iff.1 hq).1
  rw [hl] at h1
  obtain ⟨x1, -⟩ := h.wd.row_ne h.bx (by decide) (by decide)
  obtain ⟨r1, -⟩ := h.wd.row_ne h.r (by decide) (by decide)
  have e1 : gP ≠ gW := fun e => x1 (by rw [e]; rfl)
  have e2 : gP ≠ bb := fun e => r1 (by rw [e]; rfl)
  have hP : w.heap.size ≤ gP := by
    obtain ⟨g, c, e, _, _, hB, _⟩ := h.wd.rd_p hq
    cases e; exact hB
  have ho : Only (fun k => k = gP) wr (wr.setCell ⟨gP, at_, none⟩ (.string (txB (q ++ cs)))) := (Only.refl _ _).set gP at_ _ rfl
  exact ⟨h1, h.bx.only ho (fun e => e1 e.symm), h.r.only ho (fun e => e2 e.symm), h.ne, h.sp.put hq hc, h.bel.setCell (by show w.heap.size ≤ gP; exact hP) _⟩
theorem SpW.step {w wr : World} {bb gP gD gW n m : Nat} {P : List (List (List UInt8))} {D : List Bool} {at_ : Nat} {x : List At} (h : SpW w wr bb gP gD gW n m P D at_ x) (ha : at_ < n) (b : Bool) : SpW w (wr.setCell ⟨gD, at_, none⟩ (.bool b)) bb gP gD gW n m P (D.set at_ b) (at_ + 1) (x ++ [stp b]) := by
  have hl := h.sp.dl
  have wd := h.wd
  rw [← hl] at wd
  have h1 := wd.set_d at_ b (by omega)
  rw [hl] at h1
  obtain ⟨-, x1⟩ := h.wd.row_ne h.bx (by decide) (by decide)
  obtain ⟨-, r1⟩ := h.wd.row_ne h.r (by decide) (by decide)
  have e1 : gD ≠ gW := fun e => x1 (by rw [e]; rfl)
  have e2 : gD ≠ bb := fun e => r1 (by rw [e]; rfl)
  have hP : w.heap.size ≤ gD := by
    obtain ⟨g, c, e, _, _, hB, _⟩ := h.wd.rd_d (List.getElem?_eq_getElem (show at_ < D.length by omega))
    cases e; exact hB
  have ho : Only (fun k => k = gD) wr (wr.setCell ⟨gD, at_, none⟩ (.bool b)) := (Only.refl _ _).set gD at_ _ rfl
  exact ⟨h1, h.bx.only ho (fun e => e1 e.symm), h.r.only ho (fun e => e2 e.symm), h.ne, h.sp.step ha b, h.bel.setCell (by show w.heap.size ≤ gD; exact hP) _⟩
theorem Wd.cp {w : World} {B g k c : Nat} {vD : Value} {P : List (List (List UInt8))} {D : List Bool} (h : Wd w B (.slice (some ⟨g, 0, none⟩) k c) vD P D) {i : Nat} {q : List (List UInt8)} (hq : P[i]? = some q) : w.cell? ⟨g, i, none⟩ = some (.string (txB q)) ∧ w.frozen? ⟨g, i, none⟩ = false := by
  obtain ⟨g', c', e, h1, h2, _⟩ := h.rd_p hq
  cases e
  exact ⟨h1, h2⟩
theorem Wd.cd {w : World} {B g k c : Nat} {vP : Value} {P : List (List (List UInt8))} {D : List Bool} (h : Wd w B vP (.slice (some ⟨g, 0, none⟩) k c) P D) {i : Nat} {b : Bool} (hq : D[i]? = some b) : w.cell? ⟨g, i, none⟩ = some (.bool b) ∧ w.frozen? ⟨g, i, none⟩ = false := by
  obtain ⟨g', c', e, h1, h2, _⟩ := h.rd_d hq
  cases e
  exact ⟨h1, h2⟩
theorem Mkd.sp {w wA wm : World} {n m bb gP gD gW : Nat} (h : Mkd wA wm n gP gD gW) (hb : Below w.heap.size w wA) (hr : RowAt wA bb 113 [.slice none 0 0, .slice none 0 0]) (hm : n + 1 = m) : SpW w wm bb gP gD gW n m (List.replicate m []) (List.replicate n false) 0 [] := by
  subst hm
  refine ⟨h.wd.base hb.size, h.x, hr.below h.bel hr.lt, fun e => ?_, SpI.start n, hb.trans (h.bel.mono hb.size)⟩
  have h1 := h.gx
  have h2 := hr.lt
  omega
theorem atomsL_take {l : List Pt} {k : Nat} {p : Pt} (h : l[k]? = some p) : atomsL (l.take (k + 1)) = atomsL (l.take k) ++ atoms p := by
  rw [List.take_add_one, h, atomsL_append]
  simp [atomsL]
theorem from_take {l : List Pt} {k : Nat} {p : Pt} (h : l[k]? = some p) : At.fromN (atomsL (l.take k)) + At.fromN (atoms p) ≤ At.fromN (atomsL l) := by
  have h1 := atomsL_take h
  have h2 : atomsL l = atomsL (l.take (k + 1)) ++ atomsL (l.drop (k + 1)) := by rw [← atomsL_append, List.take_append_drop]
  rw [h2, At.from_app, h1, At.from_app]
  omega
theorem to_take {l : List Pt} {k : Nat} {p : Pt} (h : l[k]? = some p) : (atomsL (l.take k)).length + (atoms p).length ≤ (atomsL l).length := by
  have h1 := atomsL_take h
  have h2 : atomsL l = atomsL (l.take (k + 1)) ++ atomsL (l.drop (k + 1)) := by rw [← atomsL_append, List.take_append_drop]
  rw [h2, List.length_append, h1, List.length_append]
  omega
theorem at_len (x : List At) : x.length ≤ At.fromN x + At.toN x := by
  induction x with
  | nil => simp
  | cons s x ih => cases s <;> simp only [List.length_cons, At.fromN, At.toN] <;> omega
set_option maxRecDepth 100000 in
set_option maxHeartbeats 4000000 in
theorem spread_any (a : Option Addr) (l : List Pt) (c : Nat) (n t : Nat) (w : World) (hp : PtsAt w a l) (he : IsEd l n t) (hc : l.length ≤ 4194304) :
    Calls Tryd.prog 71 #[.slice a l.length c, .int .i64 (n : Int)] w fun r w' => ∃ gP gD m P D, n + 1 = m ∧ r = .returned (.agg #[.slice (some ⟨gP, 0, none⟩) m m, .slice (some ⟨gD, 0, none⟩) n n]) ∧ Wd w' w.heap.size (.slice (some ⟨gP, 0, none⟩) m m) (.slice (some ⟨gD, 0, none⟩) n n) P D ∧ wAts P D = atomsL l ∧ P.length = n + 1 ∧ D.length = n ∧ (∀ q ∈ P, Cps q) ∧ Below w.heap.size w w' := by
  have HP := hide hp
  have HE := hide he
  have HN40 : Hid (n ≤ 1099511627776) := hide he.2.2.2.1
  obtain ⟨nl, hnl⟩ : ∃ z, l.length = z := ⟨_, rfl⟩
  rw [hnl] at hc ⊢
  have HNL := hide hnl
  have nI : (nl : Int) ≤ 9223372036854775807 := by omega
  have hw1 : IntKind.i64.wrap ((n : Int) + 1) = ((n + 1 : Nat) : Int) := by have := unhide HN40; rw [IntKind.wrap_i64] <;> omega
  clear hp he hnl
  go_enter Tryd.func71, Tryd.ntmps71
  go_wp2_with fail
  have HBA : Hid (Below w.heap.size w (w.alloc (.cells #[.slice none 0 0, .slice none 0 0] 113))) := hide ((Below.refl _ _).alloc (Nat.le_refl _) _)
  have HRA := hide (RowAt.new w 113 [.slice none 0 0, .slice none 0 0])
  obtain ⟨wA, hA⟩ : ∃ wA, w.alloc (.cells #[.slice none 0 0, .slice none 0 0] 113) = wA := ⟨_, rfl⟩
  have HRA : Hid (RowAt wA w.heap.size 113 [.slice none 0 0, .slice none 0 0]) := by rw [← hA]; exact HRA
  rw [hA] at HBA ⊢
  clear hA
  obtain ⟨bb, hbb⟩ : ∃ bb, w.heap.size = bb := ⟨_, rfl⟩
  have HRA : Hid (RowAt wA bb 113 [.slice none 0 0, .slice none 0 0]) := by rw [← hbb]; exact HRA
  have HBA : Hid (Below w.heap.size w wA) := HBA
  rw [show (Value.pointer (some ({ block := w.heap.size, off := 0 } : Addr))) = Value.pointer (some ({ block := bb, off := 0 } : Addr)) by rw [hbb]]
  have HBB : Hid (w.heap.size ≤ bb) := hide (by omega)
  clear hbb
  refine reg_post (fun a_ w_ => ∃ gP gD gW, a_ = ({ tmps := #[.slice a nl c, .int .i64 (n : Int), undef, undef, .pointer (some ⟨bb, 0, none⟩), .pointer (some ⟨gW, 0, none⟩), undef, undef, undef, .int .i64 (n : Int), .int .i64 ((n + 1 : Nat) : Int), .slice (some ⟨gP, 0, none⟩) (n + 1) (n + 1), .int .i64 (n : Int), .slice (some ⟨gD, 0, none⟩) n n, .agg #[.slice (some ⟨gP, 0, none⟩) (n + 1) (n + 1), .slice (some ⟨gD, 0, none⟩) n n], undef, undef, undef, undef, undef, undef, undef, undef, undef, undef, undef, undef, undef, undef, undef, undef, undef, undef, undef, undef, undef, undef, undef, undef, undef, undef, undef, undef, undef, undef, undef, undef, undef, undef, undef, undef, undef], defers := [] } : Act) ∧ Mkd wA w_ n gP gD gW) ?_ ?_
  · refine wp_region_T (S := fun _ => True) (fun i => decide (i < 8)) (by kernel_rfl) trivial (fun hHeld => ?_)
    refine wpAnyT_take (i := 0) (oi := { dst := some 9, op := Op.move (Operand.tmp 1), type := 3, pos := "ref.go:64", after := #[], guard := none }) (v := .int .i64 (n : Int)) rfl (by kernel_rfl) (by kernel_rfl) (by kernel_rfl) (by kernel_rfl) (fun _ _ _ h => by cases h.1) (Or.inl ⟨by rfl, ?_⟩) hHeld ?_
    · intro w hSw
      first
        | rfl
        | (go_simp; done)
    try go_frame
    refine wpAnyT_take (i := 1) (oi := { dst := some 10, op := Op.binOp BinOp.add 3 (Operand.tmp 9) (Operand.const (Value.int IntKind.i64 1)) 3, type := 3, pos := "ref.go:64", after := #[{ on := 0, ground := Ground.data }], guard := none }) (v := .int .i64 ((n + 1 : Nat) : Int)) rfl (by kernel_rfl) (by kernel_rfl) (by kernel_rfl) (by kernel_rfl) (fun _ _ _ h => by cases h.1) (Or.inl ⟨by rfl, ?_⟩) hHeld ?_
    · intro w hSw
      go_simp
      try simp only [hw1]
      try trivial
      try rfl
    try go_frame
    refine wpAnyT_take (i := 3) (oi := { dst := some 12, op := Op.move (Operand.tmp 1), type := 3, pos := "ref.go:64", after := #[], guard := none }) (v := .int .i64 (n : Int)) rfl (by kernel_rfl) (by kernel_rfl) (by kernel_rfl) (by kernel_rfl) (fun _ _ _ h => by cases h.1) (Or.inl ⟨by rfl, ?_⟩) hHeld ?_
    · intro w hSw
      first
        | rfl
        | (go_simp; done)
    try go_frame
    have HM0 := hide (Mk3.start wA n)
    refine anyT_three (i := 2) (j := 4) (l := 6) (oi := { dst := some 11, op := Op.makeSlice 47 (Operand.tmp 10) (Operand.tmp 10), type := 47, pos := "ref.go:64", after := #[{ on := 1, ground := Ground.data }, { on := 1, ground := Ground.data }], guard := none }) (oj := { dst := some 13, op := Op.makeSlice 111 (Operand.tmp 12) (Operand.tmp 12), type := 111, pos := "ref.go:64", after := #[{ on := 3, ground := Ground.data }, { on := 3, ground := Ground.data }], guard := none }) (ol := { dst := some 5, op := Op.alloc 113, type := 0, pos := "ref.go:64", after := #[], guard := none }) (by kernel_rfl) rfl rfl rfl (fun K hK => ?_) (fun K hK => ?_) (fun K hK => ?_)
    · rw [if_pos (by rfl)]
      refine (unhide HM0).wpP _ _ rfl rfl rfl (unhide HN40) (fun gP wk1 hm => ?_)
      have HM1 := hide hm
      refine hK.out _ _ (fun _ => trivial) ?_
      clear hK K hm HM0
      try go_frame
      refine anyU_two (i := 4) (j := 6) (oi := { dst := some 13, op := Op.makeSlice 111 (Operand.tmp 12) (Operand.tmp 12), type := 111, pos := "ref.go:64", after := #[{ on := 3, ground := Ground.data }, { on := 3, ground := Ground.data }], guard := none }) (oj := { dst := some 5, op := Op.alloc 113, type := 0, pos := "ref.go:64", after := #[], guard := none }) (by kernel_rfl) rfl rfl (fun K hK => ?_) (fun K hK => ?_)
      · rw [if_pos (by rfl)]
        refine (unhide HM1).wpD _ _ rfl rfl rfl (unhide HN40) (fun gD wk2 hm => ?_)
        have HM2 := hide hm
        refine hK.out _ _ (fun _ => trivial) ?_
        clear hK K hm HM1
        try go_frame
        refine wpAnyT_take (i := 5) (oi := { dst := some 14, op := Op.build 113 #[(0, Operand.tmp 11), (1, Operand.tmp 13)], type := 113, pos := "ref.go:64", after := #[{ on := 2, ground := Ground.data }, { on := 4, ground := Ground.data }], guard := none }) (v := .agg #[.slice (some ⟨gP, 0, none⟩) (n + 1) (n + 1), .slice (some ⟨gD, 0, none⟩) n n]) rfl (by kernel_rfl) (by kernel_rfl) (by kernel_rfl) (by kernel_rfl) (fun _ _ _ h => by cases h.1) (Or.inl ⟨by rfl, ?_⟩) trivial ?_
        · intro w hSw
          first
            | rfl
            | (go_simp; done)
        try go_frame
        refine wpAnyT_one (i := 6) (o := { dst := some 5, op := Op.alloc 113, type := 0, pos := "ref.go:64", after := #[], guard := none }) (by kernel_rfl) rfl (fun K hK => ?_)
        rw [if_pos (by rfl)]
        refine (unhide HM2).wpX rfl (fun gW wk3 hm => ?_)
        have HM3 := hide hm
        refine hK.out _ _ (fun _ => trivial) ?_
        clear hK K hm HM2
        try go_frame
        have HMS := hide ((unhide HM3).store (unhide HN40))
        have fr0 := ((unhide HM3).x gW rfl).1.frozen 0
        have fr1 := ((unhide HM3).x gW rfl).1.frozen 1
        have xc0 : wk3.cell? ⟨gW, 0, none⟩ = some (.slice none 0 0) := ((unhide HM3).x gW rfl).1.cell 0
        have xc1 : wk3.cell? ⟨gW, 1, none⟩ = some (.slice none 0 0) := ((unhide HM3).x gW rfl).1.cell 1
        refine wpAnyT_one (i := 7) (o := { dst := none, op := Op.store 113 (Operand.tmp 5) (Operand.tmp 14), type := 0, pos := "ref.go:64", after := #[{ on := 6, ground := Ground.data }, { on := 5, ground := Ground.data }, { on := 0, ground := Ground.phase }, { on := 1, ground := Ground.phase }, { on := 2, ground := Ground.phase }, { on := 3, ground := Ground.phase }, { on := 4, ground := Ground.phase }, { on := 5, ground := Ground.phase }, { on := 6, ground := Ground.phase }], guard := none }) (by kernel_rfl) rfl (fun K hK => ?_)
        go_simp
        refine hK.out _ _ (fun _ => trivial) ?_
        clear hK K
        try go_frame
        refine wpAnyT_done (by kernel_rfl) ?_ _
        exact ⟨rfl, gP, gD, gW, rfl, unhide HMS⟩
      · rw [if_pos (by rfl)]
        refine (unhide HM1).wpX rfl (fun gW wk2 hm => ?_)
        have HM2 := hide hm
        refine hK.out _ _ (fun _ => trivial) ?_
        clear hK K hm HM1
        try go_frame
        refine wpAnyT_one (i := 4) (o := { dst := some 13, op := Op.makeSlice 111 (Operand.tmp 12) (Operand.tmp 12), type := 111, pos := "ref.go:64", after := #[{ on := 3, ground := Ground.data }, { on := 3, ground := Ground.data }], guard := none }) (by kernel_rfl) rfl (fun K hK => ?_)
        rw [if_pos (by rfl)]
        refine (unhide HM2).wpD _ _ rfl rfl rfl (unhide HN40) (fun gD wk3 hm => ?_)
        have HM3 := hide hm
        refine hK.out _ _ (fun _ => trivial) ?_
        clear hK K hm HM2
        try go_frame
        refine wpAnyT_take (i := 5) (oi := { dst := some 14, op := Op.build 113 #[(0, Operand.tmp 11), (1, Operand.tmp 13)], type := 113, pos := "ref.go:64", after := #[{ on := 2, ground := Ground.data }, { on := 4, ground := Ground.data }], guard := none }) (v := .agg #[.slice (some ⟨gP, 0, none⟩) (n + 1) (n + 1), .slice (some ⟨gD, 0, none⟩) n n]) rfl (by kernel_rfl) (by kernel_rfl) (by kernel_rfl) (by kernel_rfl) (fun _ _ _ h => by cases h.1) (Or.inl ⟨by rfl, ?_⟩) trivial ?_
        · intro w hSw
          first
            | rfl
            | (go_simp; done)
        try go_frame
        have HMS := hide ((unhide HM3).store (unhide HN40))
        have fr0 := ((unhide HM3).x gW rfl).1.frozen 0
        have fr1 := ((unhide HM3).x gW rfl).1.frozen 1
        have xc0 : wk3.cell? ⟨gW, 0, none⟩ = some (.slice none 0 0) := ((unhide HM3).x gW rfl).1.cell 0
        have xc1 : wk3.cell? ⟨gW, 1, none⟩ = some (.slice none 0 0) := ((unhide HM3).x gW rfl).1.cell 1
        refine wpAnyT_one (i := 7) (o := { dst := none, op := Op.store 113 (Operand.tmp 5) (Operand.tmp 14), type := 0, pos := "ref.go:64", after := #[{ on := 6, ground := Ground.data }, { on := 5, ground := Ground.data }, { on := 0, ground := Ground.phase }, { on := 1, ground := Ground.phase }, { on := 2, ground := Ground.phase }, { on := 3, ground := Ground.phase }, { on := 4, ground := Ground.phase }, { on := 5, ground := Ground.phase }, { on := 6, ground := Ground.phase }], guard := none }) (by kernel_rfl) rfl (fun K hK => ?_)
        go_simp
        refine hK.out _ _ (fun _ => trivial) ?_
        clear hK K
        try go_frame
        refine wpAnyT_done (by kernel_rfl) ?_ _
        exact ⟨rfl, gP, gD, gW, rfl, unhide HMS⟩
    · rw [if_pos (by rfl)]
      refine (unhide HM0).wpD _ _ rfl rfl rfl (unhide HN40) (fun gD wk1 hm => ?_)
      have HM1 := hide hm
      refine hK.out _ _ (fun _ => trivial) ?_
      clear hK K hm HM0
      try go_frame
      refine anyU_two (i := 2) (j := 6) (oi := { dst := some 11, op := Op.makeSlice 47 (Operand.tmp 10) (Operand.tmp 10), type := 47, pos := "ref.go:64", after := #[{ on := 1, ground := Ground.data }, { on := 1, ground := Ground.data }], guard := none }) (oj := { dst := some 5, op := Op.alloc 113, type := 0, pos := "ref.go:64", after := #[], guard := none }) (by kernel_rfl) rfl rfl (fun K hK => ?_) (fun K hK => ?_)
      · rw [if_pos (by rfl)]
        refine (unhide HM1).wpP _ _ rfl rfl rfl (unhide HN40) (fun gP wk2 hm => ?_)
        have HM2 := hide hm
        refine hK.out _ _ (fun _ => trivial) ?_
        clear hK K hm HM1
        try go_frame
        refine wpAnyT_take (i := 5) (oi := { dst := some 14, op := Op.build 113 #[(0, Operand.tmp 11), (1, Operand.tmp 13)], type := 113, pos := "ref.go:64", after := #[{ on := 2, ground := Ground.data }, { on := 4, ground := Ground.data }], guard := none }) (v := .agg #[.slice (some ⟨gP, 0, none⟩) (n + 1) (n + 1), .slice (some ⟨gD, 0, none⟩) n n]) rfl (by kernel_rfl) (by kernel_rfl) (by kernel_rfl) (by kernel_rfl) (fun _ _ _ h => by cases h.1) (Or.inl ⟨by rfl, ?_⟩) trivial ?_
        · intro w hSw
          first
            | rfl
            | (go_simp; done)
        try go_frame
        refine wpAnyT_one (i := 6) (o := { dst := some 5, op := Op.alloc 113, type := 0, pos := "ref.go:64", after := #[], guard := none }) (by kernel_rfl) rfl (fun K hK => ?_)
        rw [if_pos (by rfl)]
        refine (unhide HM2).wpX rfl (fun gW wk3 hm => ?_)
        have HM3 := hide hm
        refine hK.out _ _ (fun _ => trivial) ?_
        clear hK K hm HM2
        try go_frame
        have HMS := hide ((unhide HM3).store (unhide HN40))
        have fr0 := ((unhide HM3).x gW rfl).1.frozen 0
        have fr1 := ((unhide HM3).x gW rfl).1.frozen 1
        have xc0 : wk3.cell? ⟨gW, 0, none⟩ = some (.slice none 0 0) := ((unhide HM3).x gW rfl).1.cell 0
        have xc1 : wk3.cell? ⟨gW, 1, none⟩ = some (.slice none 0 0) := ((unhide HM3).x gW rfl).1.cell 1
        refine wpAnyT_one (i := 7) (o := { dst := none, op := Op.store 113 (Operand.tmp 5) (Operand.tmp 14), type := 0, pos := "ref.go:64", after := #[{ on := 6, ground := Ground.data }, { on := 5, ground := Ground.data }, { on := 0, ground := Ground.phase }, { on := 1, ground := Ground.phase }, { on := 2, ground := Ground.phase }, { on := 3, ground := Ground.phase }, { on := 4, ground := Ground.phase }, { on := 5, ground := Ground.phase }, { on := 6, ground := Ground.phase }], guard := none }) (by kernel_rfl) rfl (fun K hK => ?_)
        go_simp
        refine hK.out _ _ (fun _ => trivial) ?_
        clear hK K
        try go_frame
        refine wpAnyT_done (by kernel_rfl) ?_ _
        exact ⟨rfl, gP, gD, gW, rfl, unhide HMS⟩
      · rw [if_pos (by rfl)]
        refine (unhide HM1).wpX rfl (fun gW wk2 hm => ?_)
        have HM2 := hide hm
        refine hK.out _ _ (fun _ => trivial) ?_
        clear hK K hm HM1
        try go_frame
        refine wpAnyT_one (i := 2) (o := { dst := some 11, op := Op.makeSlice 47 (Operand.tmp 10) (Operand.tmp 10), type := 47, pos := "ref.go:64", after := #[{ on := 1, ground := Ground.data }, { on := 1, ground := Ground.data }], guard := none }) (by kernel_rfl) rfl (fun K hK => ?_)
        rw [if_pos (by rfl)]
        refine (unhide HM2).wpP _ _ rfl rfl rfl (unhide HN40) (fun gP wk3 hm => ?_)
        have HM3 := hide hm
        refine hK.out _ _ (fun _ => trivial) ?_
        clear hK K hm HM2
        try go_frame
        refine wpAnyT_take (i := 5) (oi := { dst := some 14, op := Op.build 113 #[(0, Operand.tmp 11), (1, Operand.tmp 13)], type := 113, pos := "ref.go:64", after := #[{ on := 2, ground := Ground.data }, { on := 4, ground := Ground.data }], guard := none }) (v := .agg #[.slice (some ⟨gP, 0, none⟩) (n + 1) (n + 1), .slice (some ⟨gD, 0, none⟩) n n]) rfl (by kernel_rfl) (by kernel_rfl) (by kernel_rfl) (by kernel_rfl) (fun _ _ _ h => by cases h.1) (Or.inl ⟨by rfl, ?_⟩) trivial ?_
        · intro w hSw
          first
            | rfl
            | (go_simp; done)
        try go_frame
        have HMS := hide ((unhide HM3).store (unhide HN40))
        have fr0 := ((unhide HM3).x gW rfl).1.frozen 0
        have fr1 := ((unhide HM3).x gW rfl).1.frozen 1
        have xc0 : wk3.cell? ⟨gW, 0, none⟩ = some (.slice none 0 0) := ((unhide HM3).x gW rfl).1.cell 0
        have xc1 : wk3.cell? ⟨gW, 1, none⟩ = some (.slice none 0 0) := ((unhide HM3).x gW rfl).1.cell 1
        refine wpAnyT_one (i := 7) (o := { dst := none, op := Op.store 113 (Operand.tmp 5) (Operand.tmp 14), type := 0, pos := "ref.go:64", after := #[{ on := 6, ground := Ground.data }, { on := 5, ground := Ground.data }, { on := 0, ground := Ground.phase }, { on := 1, ground := Ground.phase }, { on := 2, ground := Ground.phase }, { on := 3, ground := Ground.phase }, { on := 4, ground := Ground.phase }, { on := 5, ground := Ground.phase }, { on := 6, ground := Ground.phase }], guard := none }) (by kernel_rfl) rfl (fun K hK => ?_)
        go_simp
        refine hK.out _ _ (fun _ => trivial) ?_
        clear hK K
        try go_frame
        refine wpAnyT_done (by kernel_rfl) ?_ _
        exact ⟨rfl, gP, gD, gW, rfl, unhide HMS⟩
    · rw [if_pos (by rfl)]
      refine (unhide HM0).wpX rfl (fun gW wk1 hm => ?_)
      have HM1 := hide hm
      refine hK.out _ _ (fun _ => trivial) ?_
      clear hK K hm HM0
      try go_frame
      refine anyU_two (i := 2) (j := 4) (oi := { dst := some 11, op := Op.makeSlice 47 (Operand.tmp 10) (Operand.tmp 10), type := 47, pos := "ref.go:64", after := #[{ on := 1, ground := Ground.data }, { on := 1, ground := Ground.data }], guard := none }) (oj := { dst := some 13, op := Op.makeSlice 111 (Operand.tmp 12) (Operand.tmp 12), type := 111, pos := "ref.go:64", after := #[{ on := 3, ground := Ground.data }, { on := 3, ground := Ground.data }], guard := none }) (by kernel_rfl) rfl rfl (fun K hK => ?_) (fun K hK => ?_)
      · rw [if_pos (by rfl)]
        refine (unhide HM1).wpP _ _ rfl rfl rfl (unhide HN40) (fun gP wk2 hm => ?_)
        have HM2 := hide hm
        refine hK.out _ _ (fun _ => trivial) ?_
        clear hK K hm HM1
        try go_frame
        refine wpAnyT_one (i := 4) (o := { dst := some 13, op := Op.makeSlice 111 (Operand.tmp 12) (Operand.tmp 12), type := 111, pos := "ref.go:64", after := #[{ on := 3, ground := Ground.data }, { on := 3, ground := Ground.data }], guard := none }) (by kernel_rfl) rfl (fun K hK => ?_)
        rw [if_pos (by rfl)]
        refine (unhide HM2).wpD _ _ rfl rfl rfl (unhide HN40) (fun gD wk3 hm => ?_)
        have HM3 := hide hm
        refine hK.out _ _ (fun _ => trivial) ?_
        clear hK K hm HM2
        try go_frame
        refine wpAnyT_take (i := 5) (oi := { dst := some 14, op := Op.build 113 #[(0, Operand.tmp 11), (1, Operand.tmp 13)], type := 113, pos := "ref.go:64", after := #[{ on := 2, ground := Ground.data }, { on := 4, ground := Ground.data }], guard := none }) (v := .agg #[.slice (some ⟨gP, 0, none⟩) (n + 1) (n + 1), .slice (some ⟨gD, 0, none⟩) n n]) rfl (by kernel_rfl) (by kernel_rfl) (by kernel_rfl) (by kernel_rfl) (fun _ _ _ h => by cases h.1) (Or.inl ⟨by rfl, ?_⟩) trivial ?_
        · intro w hSw
          first
            | rfl
            | (go_simp; done)
        try go_frame
        have HMS := hide ((unhide HM3).store (unhide HN40))
        have fr0 := ((unhide HM3).x gW rfl).1.frozen 0
        have fr1 := ((unhide HM3).x gW rfl).1.frozen 1
        have xc0 : wk3.cell? ⟨gW, 0, none⟩ = some (.slice none 0 0) := ((unhide HM3).x gW rfl).1.cell 0
        have xc1 : wk3.cell? ⟨gW, 1, none⟩ = some (.slice none 0 0) := ((unhide HM3).x gW rfl).1.cell 1
        refine wpAnyT_one (i := 7) (o := { dst := none, op := Op.store 113 (Operand.tmp 5) (Operand.tmp 14), type := 0, pos := "ref.go:64", after := #[{ on := 6, ground := Ground.data }, { on := 5, ground := Ground.data }, { on := 0, ground := Ground.phase }, { on := 1, ground := Ground.phase }, { on := 2, ground := Ground.phase }, { on := 3, ground := Ground.phase }, { on := 4, ground := Ground.phase }, { on := 5, ground := Ground.phase }, { on := 6, ground := Ground.phase }], guard := none }) (by kernel_rfl) rfl (fun K hK => ?_)
        go_simp
        refine hK.out _ _ (fun _ => trivial) ?_
        clear hK K
        try go_frame
        refine wpAnyT_done (by kernel_rfl) ?_ _
        exact ⟨rfl, gP, gD, gW, rfl, unhide HMS⟩
      · rw [if_pos (by rfl)]
        refine (unhide HM1).wpD _ _ rfl rfl rfl (unhide HN40) (fun gD wk2 hm => ?_)
        have HM2 := hide hm
        refine hK.out _ _ (fun _ => trivial) ?_
        clear hK K hm HM1
        try go_frame
        refine wpAnyT_one (i := 2) (o := { dst := some 11, op := Op.makeSlice 47 (Operand.tmp 10) (Operand.tmp 10), type := 47, pos := "ref.go:64", after := #[{ on := 1, ground := Ground.data }, { on := 1, ground := Ground.data }], guard := none }) (by kernel_rfl) rfl (fun K hK => ?_)
        rw [if_pos (by rfl)]
        refine (unhide HM2).wpP _ _ rfl rfl rfl (unhide HN40) (fun gP wk3 hm => ?_)
        have HM3 := hide hm
        refine hK.out _ _ (fun _ => trivial) ?_
        clear hK K hm HM2
        try go_frame
        refine wpAnyT_take (i := 5) (oi := { dst := some 14, op := Op.build 113 #[(0, Operand.tmp 11), (1, Operand.tmp 13)], type := 113, pos := "ref.go:64", after := #[{ on := 2, ground := Ground.data }, { on := 4, ground := Ground.data }], guard := none }) (v := .agg #[.slice (some ⟨gP, 0, none⟩) (n + 1) (n + 1), .slice (some ⟨gD, 0, none⟩) n n]) rfl (by kernel_rfl) (by kernel_rfl) (by kernel_rfl) (by kernel_rfl) (fun _ _ _ h => by cases h.1) (Or.inl ⟨by rfl, ?_⟩) trivial ?_
        · intro w hSw
          first
            | rfl
            | (go_simp; done)
        try go_frame
        have HMS := hide ((unhide HM3).store (unhide HN40))
        have fr0 := ((unhide HM3).x gW rfl).1.frozen 0
        have fr1 := ((unhide HM3).x gW rfl).1.frozen 1
        have xc0 : wk3.cell? ⟨gW, 0, none⟩ = some (.slice none 0 0) := ((unhide HM3).x gW rfl).1.cell 0
        have xc1 : wk3.cell? ⟨gW, 1, none⟩ = some (.slice none 0 0) := ((unhide HM3).x gW rfl).1.cell 1
        refine wpAnyT_one (i := 7) (o := { dst := none, op := Op.store 113 (Operand.tmp 5) (Operand.tmp 14), type := 0, pos := "ref.go:64", after := #[{ on := 6, ground := Ground.data }, { on := 5, ground := Ground.data }, { on := 0, ground := Ground.phase }, { on := 1, ground := Ground.phase }, { on := 2, ground := Ground.phase }, { on := 3, ground := Ground.phase }, { on := 4, ground := Ground.phase }, { on := 5, ground := Ground.phase }, { on := 6, ground := Ground.phase }], guard := none }) (by kernel_rfl) rfl (fun K hK => ?_)
        go_simp
        refine hK.out _ _ (fun _ => trivial) ?_
        clear hK K
        try go_frame
        refine wpAnyT_done (by kernel_rfl) ?_ _
        exact ⟨rfl, gP, gD, gW, rfl, unhide HMS⟩
  rintro _ wm ⟨gP, gD, gW, rfl, hmk⟩
  have HMK := hide hmk
  clear hmk
  dsimp only
  obtain ⟨m, hm⟩ : ∃ m, n + 1 = m := ⟨_, rfl⟩
  have HSP := hide ((unhide HMK).sp (unhide HBA) (unhide HRA) hm)
  have HM := hide hm
  rw [hm]
  clear hm HMK HRA HBA hw1
  go_wp2_with fail
  go_loopw [6, 17] (fun t6 i wr => ∃ k at_ : Nat, k ≤ nl ∧ t6 = .int .i64 (at_ : Int) ∧ i = .int .i64 (k : Int) ∧ Hid (At.fromN (atomsL (l.take k)) = at_ ∧ ∃ P D, SpW w wr bb gP gD gW n m P D at_ (atomsL (l.take k)))) (fun _ i _ => ((nl : Int) - intOf i).toNat)
  case atStart => exact ⟨0, 0, by omega, by simp, by simp, hide ⟨rfl, _, _, unhide HSP⟩⟩
  case round =>
    obtain ⟨k, at_, hk, rfl, rfl, HR⟩ := hrel
    obtain ⟨hfr, P, D, hsp⟩ := unhide HR
    have HS0 := hide hsp
    have HFR := hide hfr
    clear hfr hsp HR
    by_cases hlt : k < nl
    · have kI : (k : Int) < (nl : Int) := by omega
      obtain ⟨p, hpk⟩ : ∃ p, l[k]? = some p := ⟨_, List.getElem?_eq_getElem (by have := unhide HNL; omega)⟩
      obtain ⟨b, off, rfl, e0, e1, e2⟩ := (unhide HP).at_ (unhide HS0).bel hpk
      have HGD := hide ((unhide HE).1.good p (List.mem_of_getElem? hpk))
      have HTK := hide (atomsL_take hpk)
      have HFT := hide (from_take hpk)
      have HTT := hide (to_take hpk)
      have hbA : Below wr.heap.size wr (wr.alloc (.cells #[.int .i64 p.kind, .int .i64 p.n, .string p.text] 39)) := (Below.refl _ _).alloc (Nat.le_refl _) _
      have HSA := hide ((unhide HS0).call hbA)
      have HRW := hide (RowAt.new wr 39 [.int .i64 p.kind, .int .i64 p.n, .string p.text])
      clear hpk hbA HS0
      obtain ⟨pk, pn, pt⟩ := p
      dsimp only at e0 e1 e2 HSA HRW
      have hbe : (unhide HGD).1 = (unhide HGD).1 := rfl
      rcases (unhide HGD).cases with ⟨hk1, htx, hat⟩ | ⟨hk1, htx, hat⟩ | ⟨hk1, cs, htx, hln, hat⟩
      · dsimp only at hk1
        subst hk1
        have HAT := hide hat
        have HPN : Hid (1 ≤ pn) := hide (unhide HGD).1
        have HFN : Hid (at_ + pn.toNat ≤ n) := hide (by
          have h1 := unhide HFT
          have h2 := (unhide HE).2.1
          have h3 := unhide HFR
          rw [unhide HAT, from_rep_k] at h1
          dsimp only at h1
          omega)
        have pI : pn ≤ 1099511627776 := by have := unhide HFN; have := unhide HN40; have := unhide HPN; omega
        clear hat htx hbe
        go_wp2_with fail
        obtain ⟨wB, hB⟩ : ∃ z, wr.alloc (.cells #[.int .i64 1, .int .i64 pn, .string pt] 39) = z := ⟨_, rfl⟩
        rw [hB] at HSA HRW ⊢
        obtain ⟨g8, hg8⟩ : ∃ z, wr.heap.size = z := ⟨_, rfl⟩
        rw [hg8] at HRW
        simp only [hg8]
        clear hB hg8 e0 e1 e2
        go_loopw [6, 38] (fun t6 i wi => ∃ j : Nat, j ≤ pn.toNat ∧ t6 = .int .i64 ((at_ + j : Nat) : Int) ∧ i = .int .i64 (j : Int) ∧ Hid (RowAt wi g8 39 [.int .i64 1, .int .i64 pn, .string pt]) ∧ Hid (∃ D', SpW w wi bb gP gD gW n m P D' (at_ + j) (atomsL (l.take k) ++ List.replicate j .k))) (fun _ i _ => (pn - intOf i).toNat)
        case atStart => exact ⟨0, by omega, by simp, by simp, HRW, hide ⟨_, by simpa using unhide HSA⟩⟩
        case round =>
          obtain ⟨j, hj, rfl, rfl, HR8, HD⟩ := hrel
          obtain ⟨D', hD⟩ := unhide HD
          have HSD := hide hD
          clear hD HD
          by_cases hjl : (j : Int) < pn
          · obtain ⟨aj, haj⟩ : ∃ z, at_ + j = z := ⟨_, rfl⟩
            have HAJ := hide haj
            rw [haj] at HSD ⊢
            have ajn : aj < n := by have := unhide HFN; have := unhide HAJ; omega
            have ajI : (aj : Int) < (n : Int) := by omega
            have aj0 : (0 : Int) ≤ (aj : Int) := by omega
            have ajm : (aj : Int) + 1 ≤ 9223372036854775807 := by have := unhide HN40; omega
            have jm : (j : Int) + 1 ≤ 9223372036854775807 := by omega
            clear haj
            have x1 : wr.cell? ⟨gW, 1, none⟩ = some (.slice (some ⟨gD, 0, none⟩) n n) := (unhide HSD).bx.cell 1
            have k0 : wr.cell? ⟨g8, 0, none⟩ = some (.int .i64 1) := (unhide HR8).cell 0
            obtain ⟨bo, hbo⟩ : ∃ z, D'[aj]? = some z := ⟨_, List.getElem?_eq_getElem (by have := (unhide HSD).sp.dl; omega)⟩
            obtain ⟨d0, d1⟩ := (unhide HSD).wd.cd hbo
            have HNX := hide ((unhide HSD).step ajn false)
            have HR9 := hide ((unhide HR8).only (w' := wr.setCell ⟨gD, aj, none⟩ (.bool false)) ((Only.refl (fun k => k = gD) _).set gD aj _ rfl) (fun e => ((unhide HSD).wd.row_ne (unhide HR8) (by decide) (by decide)).2 (by rw [e]; rfl)))
            clear hbo
            go_wp2_with fail
            refine ⟨⟨j + 1, by omega, ?_, by simp, HR9, hide ⟨D'.set aj false, ?_⟩⟩, by simp [intOf]; omega⟩
            · have := unhide HAJ
              congr 1
              omega
            · have h1 := unhide HNX
              rw [List.append_assoc] at h1
              have h2 : List.replicate (j + 1) (At.k) = List.replicate j (At.k) ++ [At.k] := List.replicate_succ'
              rw [h2, ← Nat.add_assoc, unhide HAJ]
              exact h1
          · obtain ⟨mj, hmj⟩ : ∃ z, at_ + j = z := ⟨_, rfl⟩
            have HMJ := hide hmj
            have HJP : Hid (j = pn.toNat) := hide (by omega)
            rw [hmj] at HSD ⊢
            clear hmj
            go_wp2_with fail
            refine ⟨⟨k + 1, mj, by omega, rfl, by simp, hide ⟨?_, P, D', ?_⟩⟩, by simp [intOf]; omega⟩
            · rw [unhide HTK, unhide HAT, At.from_app, from_rep_k, unhide HFR, ← unhide HJP]
              exact unhide HMJ
            · rw [unhide HTK, unhide HAT]
              have h1 := unhide HSD
              rw [unhide HJP] at h1
              exact h1
      · dsimp only at hk1
        subst hk1
        have HAT := hide hat
        have HPN : Hid (1 ≤ pn) := hide (unhide HGD).1
        have HFN : Hid (at_ + pn.toNat ≤ n) := hide (by
          have h1 := unhide HFT
          have h2 := (unhide HE).2.1
          have h3 := unhide HFR
          rw [unhide HAT, from_rep_d] at h1
          dsimp only at h1
          omega)
        have pI : pn ≤ 1099511627776 := by have := unhide HFN; have := unhide HN40; have := unhide HPN; omega
        clear hat htx hbe
        go_wp2_with fail
        obtain ⟨wB, hB⟩ : ∃ z, wr.alloc (.cells #[.int .i64 3, .int .i64 pn, .string pt] 39) = z := ⟨_, rfl⟩
        rw [hB] at HSA HRW ⊢
        obtain ⟨g8, hg8⟩ : ∃ z, wr.heap.size = z := ⟨_, rfl⟩
        rw [hg8] at HRW
        simp only [hg8]
        clear hB hg8 e0 e1 e2
        go_loopw [6, 38] (fun t6 i wi => ∃ j : Nat, j ≤ pn.toNat ∧ t6 = .int .i64 ((at_ + j : Nat) : Int) ∧ i = .int .i64 (j : Int) ∧ Hid (RowAt wi g8 39 [.int .i64 3, .int .i64 pn, .string pt]) ∧ Hid (∃ D', SpW w wi bb gP gD gW n m P D' (at_ + j) (atomsL (l.take k) ++ List.replicate j .d))) (fun _ i _ => (pn - intOf i).toNat)
        case atStart => exact ⟨0, by omega, by simp, by simp, HRW, hide ⟨_, by simpa using unhide HSA⟩⟩
        case round =>
          obtain ⟨j, hj, rfl, rfl, HR8, HD⟩ := hrel
          obtain ⟨D', hD⟩ := unhide HD
          have HSD := hide hD
          clear hD HD
          by_cases hjl : (j : Int) < pn
          · obtain ⟨aj, haj⟩ : ∃ z, at_ + j = z := ⟨_, rfl⟩
            have HAJ := hide haj
            rw [haj] at HSD ⊢
            have ajn : aj < n := by have := unhide HFN; have := unhide HAJ; omega
            have ajI : (aj : Int) < (n : Int) := by omega
            have aj0 : (0 : Int) ≤ (aj : Int) := by omega
            have ajm : (aj : Int) + 1 ≤ 9223372036854775807 := by have := unhide HN40; omega
            have jm : (j : Int) + 1 ≤ 9223372036854775807 := by omega
            clear haj
            have x1 : wr.cell? ⟨gW, 1, none⟩ = some (.slice (some ⟨gD, 0, none⟩) n n) := (unhide HSD).bx.cell 1
            have k0 : wr.cell? ⟨g8, 0, none⟩ = some (.int .i64 3) := (unhide HR8).cell 0
            obtain ⟨bo, hbo⟩ : ∃ z, D'[aj]? = some z := ⟨_, List.getElem?_eq_getElem (by have := (unhide HSD).sp.dl; omega)⟩
            obtain ⟨d0, d1⟩ := (unhide HSD).wd.cd hbo
            have HNX := hide ((unhide HSD).step ajn true)
            have HR9 := hide ((unhide HR8).only (w' := wr.setCell ⟨gD, aj, none⟩ (.bool true)) ((Only.refl (fun k => k = gD) _).set gD aj _ rfl) (fun e => ((unhide HSD).wd.row_ne (unhide HR8) (by decide) (by decide)).2 (by rw [e]; rfl)))
            clear hbo
            go_wp2_with fail
            refine ⟨⟨j + 1, by omega, ?_, by simp, HR9, hide ⟨D'.set aj true, ?_⟩⟩, by simp [intOf]; omega⟩
            · have := unhide HAJ
              congr 1
              omega
            · have h1 := unhide HNX
              rw [List.append_assoc] at h1
              have h2 : List.replicate (j + 1) (At.d) = List.replicate j (At.d) ++ [At.d] := List.replicate_succ'
              rw [h2, ← Nat.add_assoc, unhide HAJ]
              exact h1
          · obtain ⟨mj, hmj⟩ : ∃ z, at_ + j = z := ⟨_, rfl⟩
            have HMJ := hide hmj
            have HJP : Hid (j = pn.toNat) := hide (by omega)
            rw [hmj] at HSD ⊢
            clear hmj
            go_wp2_with fail
            refine ⟨⟨k + 1, mj, by omega, rfl, by simp, hide ⟨?_, P, D', ?_⟩⟩, by simp [intOf]; omega⟩
            · rw [unhide HTK, unhide HAT, At.from_app, from_rep_d, unhide HFR, ← unhide HJP]
              exact unhide HMJ
            · rw [unhide HTK, unhide HAT]
              have h1 := unhide HSD
              rw [unhide HJP] at h1
              exact h1
      · dsimp only at hk1 htx hln
        subst hk1
        have HAT := hide hat
        have HTX := hide htx
        obtain rfl := txB_of htx
        obtain ⟨q, hq⟩ : ∃ z, P[at_]? = some z := ⟨_, List.getElem?_eq_getElem (by have := (unhide HSA).sp.pl; have := (unhide HSA).sp.le; omega)⟩
        have HQ := hide hq
        have HCQ : Hid (Cps q) := hide ((unhide HSA).sp.cps q (List.mem_of_getElem? hq))
        have hsz : ((txB q).size : Int) + ((txB cs).size : Int) ≤ 9223372036854775807 := by
          obtain ⟨q', h1, h2⟩ := (unhide HSA).sp.eq
          rw [hq] at h1
          obtain rfl := Option.some.inj h1
          have h3 := congrArg List.length h2
          rw [List.length_append, List.length_map] at h3
          have h4 := unhide HTT
          have h5 := at_len (atomsL l)
          have h6 := (unhide HE).2.2.2
          have h7 := (unhide HE).2.1
          have h8 := (unhide HE).2.2.1
          have h9 := txB_le (unhide HCQ)
          have h10 := txB_le htx.cps
          rw [unhide HAT, List.length_map] at h4
          omega
        have hszN : (txB q).size + (txB cs).size ≤ 9223372036854775807 := by omega
        have atI : (at_ : Int) < (m : Int) := by have := (unhide HSA).sp.le; have := unhide HM; omega
        have at0 : (0 : Int) ≤ (at_ : Int) := by omega
        have happ : txB q ++ txB cs = txB (q ++ cs) := txB_app q cs
        have HAP := hide happ
        clear hat htx hbe hq happ
        go_wp2_with fail
        obtain ⟨wB, hB⟩ : ∃ z, wr.alloc (.cells #[.int .i64 2, .int .i64 pn, .string (txB cs)] 39) = z := ⟨_, rfl⟩
        rw [hB] at HSA HRW ⊢
        obtain ⟨g8, hg8⟩ : ∃ z, wr.heap.size = z := ⟨_, rfl⟩
        rw [hg8] at HRW
        simp only [hg8]
        clear hB hg8 e0 e1 e2
        have HS : Hid (∀ W, Below wB.heap.size wB W → W.cell? ⟨gW, 0, none⟩ = some (.slice (some ⟨gP, 0, none⟩) m m) ∧ W.cell? ⟨gP, at_, none⟩ = some (.string (txB q)) ∧ W.cell? ⟨g8, 2, none⟩ = some (.string (txB cs))) := hide (fun W hW => ⟨((unhide HSA).call hW).bx.cell 0, (((unhide HSA).call hW).wd.cp (unhide HQ)).1, ((unhide HRW).below hW (unhide HRW).lt).cell 2⟩)
        have HFZ : Hid (wB.drew.frozen? ⟨gP, at_, none⟩ = false) := hide ((unhide HSA).wd.drew.cp (unhide HQ)).2
        have HCL : Hid (wB.drew.cell? ⟨gP, at_, none⟩ = some (.string (txB q))) := hide ((unhide HSA).wd.drew.cp (unhide HQ)).1
        have HNX : Hid (SpW w (wB.setCell ⟨gP, at_, none⟩ (.string (txB (q ++ cs)))).drew bb gP gD gW n m (P.set at_ (q ++ cs)) D at_ (atomsL (l.take k) ++ cs.map .p)) := hide (((unhide HSA).put (unhide HM) (unhide HQ) (unhide HTX).cps).call (Below.refl _ _).drew)
        refine wp_region_T (S := fun W => W.cell? ⟨gW, 0, none⟩ = some (.slice (some ⟨gP, 0, none⟩) m m) ∧ W.cell? ⟨gP, at_, none⟩ = some (.string (txB q)) ∧ W.cell? ⟨g8, 2, none⟩ = some (.string (txB cs))) (fun i => decide (i < 12)) (by kernel_rfl) (unhide HS _ (Below.refl _ _).drew) (fun hHeld => ?_)
        refine tk 0 (v := .pointer (some ⟨gW, 0, none⟩)) rfl (Or.inl ⟨by rfl, ?_⟩) hHeld ?_
        · intro w hSw
          obtain ⟨s0, s1, s2⟩ := hSw
          first
            | rfl
            | (go_simp; done)
        try go_frame
        refine tk 1 (v := .slice (some ⟨gP, 0, none⟩) m m) rfl (Or.inl ⟨by rfl, ?_⟩) hHeld ?_
        · intro w hSw
          obtain ⟨s0, s1, s2⟩ := hSw
          first
            | rfl
            | (go_simp; done)
        try go_frame
        refine tk 2 (v := .int .i64 (at_ : Int)) rfl (Or.inl ⟨by rfl, ?_⟩) hHeld ?_
        · intro w hSw
          obtain ⟨s0, s1, s2⟩ := hSw
          first
            | rfl
            | (go_simp; done)
        try go_frame
        refine tk 3 (v := .pointer (some ⟨gW, 0, none⟩)) rfl (Or.inl ⟨by rfl, ?_⟩) hHeld ?_
        · intro w hSw
          obtain ⟨s0, s1, s2⟩ := hSw
          first
            | rfl
            | (go_simp; done)
        try go_frame
        refine tk 4 (v := .slice (some ⟨gP, 0, none⟩) m m) rfl (Or.inl ⟨by rfl, ?_⟩) hHeld ?_
        · intro w hSw
          obtain ⟨s0, s1, s2⟩ := hSw
          first
            | rfl
            | (go_simp; done)
        try go_frame
        refine tk 5 (v := .int .i64 (at_ : Int)) rfl (Or.inl ⟨by rfl, ?_⟩) hHeld ?_
        · intro w hSw
          obtain ⟨s0, s1, s2⟩ := hSw
          first
            | rfl
            | (go_simp; done)
        try go_frame
        refine tk 6 (v := .pointer (some ⟨gP, at_, none⟩)) rfl (Or.inl ⟨by rfl, ?_⟩) hHeld ?_
        · intro w hSw
          obtain ⟨s0, s1, s2⟩ := hSw
          first
            | rfl
            | (go_simp; done)
        try go_frame
        refine tk 7 (v := .string (txB q)) rfl (Or.inl ⟨by rfl, ?_⟩) hHeld ?_
        · intro w hSw
          obtain ⟨s0, s1, s2⟩ := hSw
          first
            | rfl
            | (go_simp; done)
        try go_frame
        refine tk 8 (v := .pointer (some ⟨g8, 2, none⟩)) rfl (Or.inl ⟨by rfl, ?_⟩) hHeld ?_
        · intro w hSw
          obtain ⟨s0, s1, s2⟩ := hSw
          first
            | rfl
            | (go_simp; done)
        try go_frame
        refine tk 9 (v := .string (txB cs)) rfl (Or.inl ⟨by rfl, ?_⟩) hHeld ?_
        · intro w hSw
          obtain ⟨s0, s1, s2⟩ := hSw
          first
            | rfl
            | (go_simp; done)
        try go_frame
        refine tk 10 (v := .string (txB (q ++ cs))) rfl (Or.inl ⟨by rfl, ?_⟩) hHeld ?_
        · intro w hSw
          obtain ⟨s0, s1, s2⟩ := hSw
          rw [← unhide HAP]
          first
            | rfl
            | (go_simp; done)
        try go_frame
        refine tk 11 (v := .pointer (some ⟨gP, at_, none⟩)) rfl (Or.inl ⟨by rfl, ?_⟩) hHeld ?_
        · intro w hSw
          obtain ⟨s0, s1, s2⟩ := hSw
          first
            | rfl
            | (go_simp; done)
        try go_frame
        refine wpAnyT_one (i := 12) (o := { dst := none, op := Op.store 9 (Operand.tmp 35) (Operand.tmp 34), type := 0, pos := "ref.go:68", after := #[{ on := 11, ground := Ground.data }, { on := 10, ground := Ground.data }, { on := 0, ground := Ground.phase }, { on := 1, ground := Ground.phase }, { on := 2, ground := Ground.phase }, { on := 3, ground := Ground.phase }, { on := 4, ground := Ground.phase }, { on := 5, ground := Ground.phase }, { on := 6, ground := Ground.phase }, { on := 7, ground := Ground.phase }, { on := 8, ground := Ground.phase }, { on := 9, ground := Ground.phase }, { on := 10, ground := Ground.phase }], guard := none }) (by kernel_rfl) rfl (fun K hK => ?_)
        have fz := unhide HFZ
        have cl := unhide HCL
        go_simp
        refine hK.out _ _ (fun h => by cases h) ?_
        clear hK K
        try go_frame
        refine wpAnyT_done (by kernel_rfl) ?_ _
        obtain ⟨wC, hC⟩ : ∃ z, (wB.setCell ⟨gP, at_, none⟩ (.string (txB (q ++ cs)))).drew = z := ⟨_, rfl⟩
        simp only [hC] at HNX ⊢
        clear hC HS HFZ HCL
        go_wp2_with fail
        refine ⟨⟨k + 1, at_, by omega, rfl, by simp, hide ⟨?_, P.set at_ (q ++ cs), D, ?_⟩⟩, by simp [intOf]; omega⟩
        · rw [unhide HTK, unhide HAT, At.from_app, from_map, unhide HFR]
          rfl
        · rw [unhide HTK, unhide HAT]
          exact unhide HNX
    · have HSE : Hid (SpW w wr bb gP gD gW n m P D n (atomsL l)) := hide (by
        have h1 := unhide HS0
        have h2 := unhide HFR
        rw [List.take_of_length_le (by have := unhide HNL; omega)] at h1 h2
        rw [(unhide HE).2.1] at h2
        rw [← h2] at h1
        exact h1)
      have z0 : wr.cell? ⟨gW, 0, none⟩ = some (.slice (some ⟨gP, 0, none⟩) m m) := (unhide HSE).bx.cell 0
      have z1 : wr.cell? ⟨gW, 1, none⟩ = some (.slice (some ⟨gD, 0, none⟩) n n) := (unhide HSE).bx.cell 1
      have y0 : wr.cell? ⟨bb, 0, none⟩ = some (.slice none 0 0) := (unhide HSE).r.cell 0
      have y1 : wr.cell? ⟨bb, 1, none⟩ = some (.slice none 0 0) := (unhide HSE).r.cell 1
      have f0 := (unhide HSE).r.frozen 0
      have f1 := (unhide HSE).r.frozen 1
      have HFI : Hid (Wd ((wr.setCell ⟨bb, 0, none⟩ (.slice (some ⟨gP, 0, none⟩) m m)).setCell ⟨bb, 1, none⟩ (.slice (some ⟨gD, 0, none⟩) n n)) w.heap.size (.slice (some ⟨gP, 0, none⟩) m m) (.slice (some ⟨gD, 0, none⟩) n n) P D ∧ Below w.heap.size w ((wr.setCell ⟨bb, 0, none⟩ (.slice (some ⟨gP, 0, none⟩) m m)).setCell ⟨bb, 1, none⟩ (.slice (some ⟨gD, 0, none⟩) n n))) := hide (by
        obtain ⟨q1, q2⟩ := (unhide HSE).wd.row_ne (unhide HSE).r (by decide) (by decide)
        exact ⟨((unhide HSE).wd.other q1 q2).other q1 q2, ((unhide HSE).bel.setCell (unhide HBB) _).setCell (unhide HBB) _⟩)
      have HRS := hide (((unhide HSE).r.set 0 (.slice (some ⟨gP, 0, none⟩) m m)).set 1 (.slice (some ⟨gD, 0, none⟩) n n))
      go_wp2_with fail
      obtain ⟨wF, hF⟩ : ∃ z, (wr.setCell ⟨bb, 0, none⟩ (.slice (some ⟨gP, 0, none⟩) m m)).setCell ⟨bb, 1, none⟩ (.slice (some ⟨gD, 0, none⟩) n n) = z := ⟨_, rfl⟩
      simp only [hF] at HRS HFI ⊢
      clear hF
      have q0 : wF.cell? ⟨bb, 0, none⟩ = some (.slice (some ⟨gP, 0, none⟩) m m) := (unhide HRS).cell 0
      have q1 : wF.cell? ⟨bb, 1, none⟩ = some (.slice (some ⟨gD, 0, none⟩) n n) := (unhide HRS).cell 1
      refine bodyPost_ret (v := .agg #[.slice (some ⟨gP, 0, none⟩) m m, .slice (some ⟨gD, 0, none⟩) n n]) (by simp [results, Tryd.results71, go_sem, q0, q1]) rfl ?_
      exact ⟨gP, gD, m, P, D, unhide HM, rfl, (unhide HFI).1, (unhide HSE).sp.done, (unhide HSE).sp.pl, (unhide HSE).sp.dl, (unhide HSE).sp.cps, (unhide HFI).2⟩
end Go.Proofs.YtonabfpgdgnpnaaDoor
