/- A new desk (New). -/
import Derived.Test.YthgacmlbmcehmaaATl
import Derived.Deep.AppendLies
namespace Go.Proofs.Ythgacmlbmcehmaa
set_option linter.unusedVariables false
set_option linter.unusedSimpArgs false
open Go.ChangeShapes Go.WideShapes Go.ChangeAt Go.RowKit Go.Joins Go.Deep

theorem size_alloc (w : World) (o : Obj) : (w.alloc o).heap.size = w.heap.size + 1 := by simp
theorem info77 : (Try.prog.info? 77).map (fun i => (i.zero, i.size, i.bytes)) = some (some (.agg #[.int .i64 0, .int .i64 0, .bool false, .int .i64 0, .int .i64 0, .int .i64 0]), 6, 48) := by kernel_rfl
theorem info3 : (Try.prog.info? 3).map (fun i => (i.zero, i.size, i.bytes)) = some (some (.int .i64 0), 1, 8) := by kernel_rfl
theorem info_parts {t : TypeId} {z : Option Value} {s b : Nat} (h : (Try.prog.info? t).map (fun i => (i.zero, i.size, i.bytes)) = some (z, s, b)) : ∃ i, Try.prog.info? t = some i ∧ i.zero = z ∧ i.size = s ∧ i.bytes = b := by
  obtain ⟨i, hi, h2⟩ := Option.map_eq_some_iff.1 h
  obtain ⟨rfl, rfl, rfl⟩ : i.zero = z ∧ i.size = s ∧ i.bytes = b := by simpa using h2
  exact ⟨i, hi, rfl, rfl, rfl⟩
theorem grown_only {w w' : World} {row : Option Nat} (h : w.grownBy w' row) : Only (fun k => row = some k) w w' := ⟨h.os, h.tape, h.output, h.size, fun k hk hn => h.block k hk (fun e => hn e.symm)⟩
theorem own_only {p : Nat → Prop} {w w' : World} {b s n : Nat} {e : TypeId} {v : Value} {xs : List Value} (h : w.ownsRow b e s v n xs) (ho : Only p w w') (hp : ∀ k, v.ownBlock = some k → ¬ p k) : w'.ownsRow b e s v n xs := by
  obtain ⟨h1, h2⟩ := h
  refine ⟨h1, ?_⟩
  rcases h2 with h2 | ⟨g, cap, cur, e1, e2, e3, e4⟩
  · exact .inl h2
  · have hlt : g < w.heap.size := (Array.getElem?_eq_some_iff.1 e3).1
    exact .inr ⟨g, cap, cur, e1, e2, (ho.block g hlt (hp g (by rw [e1]; rfl))).trans e3, e4⟩
theorem own_call {w w' : World} {b s n : Nat} {e : TypeId} {v : Value} {xs : List Value} (h : w.ownsRow b e s v n xs) (hb : Below w.heap.size w w') : w'.ownsRow b e s v n xs :=
  own_only h (Only.of_below (p := fun _ => False) hb) (fun _ _ h => h)
theorem gv_one (u : Gst) : ∀ y ∈ gv u, y.oneCell' = true := by
  intro y hy
  simp only [gv, List.mem_cons, List.not_mem_nil, or_false] at hy
  rcases hy with rfl | rfl | rfl | rfl | rfl | rfl <;> rfl
theorem wp_append_gst {o : Oper} {a : Act} {K : Act → World → Prop} {Q : Exit → Act → World → Prop} {W : World} (s x : Operand)
    (ho : o.op = .call { callee := .builtin .append, args := #[s, x], argTypes := #[70, 70] }) (B : Nat) (v : Value) (n : Nat) (xs : List Value) (u : Gst)
    (hs : a.eval s = v) (hv : W.ownsRow B 77 6 v n xs) (hn : n ≤ 1000) (hB : B ≤ W.heap.size) (hx : a.eval x = .slice (some ⟨W.heap.size, 0, none⟩) 1 1)
    (h : ∀ v' w', w'.ownsRow B 77 6 v' (n + 1) (xs ++ gv u) → Only (fun q => v.ownBlock = some q) W w' → K (a.put o.dst v') w') : o.wp Try.prog a (W.alloc (.cells (gv u).toArray 77)) K Q := by
  obtain ⟨i0, hi, hz, hsz, hb⟩ := info_parts info77
  have nw : ∀ k y, (gv u)[k]? = some y → (W.alloc (.cells (gv u).toArray 77)).cell? ((⟨W.heap.size, 0, none⟩ : Addr).add k) = some y := by
    intro k y hk
    rw [add_plain, Nat.zero_add, (RowAt.new W 77 (gv u)).cell]
    exact hk
  have hv1 : (W.alloc (.cells (gv u).toArray 77)).ownsRow B 77 6 v n xs := World.ownsRow.alloc hv _
  refine wp_append_lies _ s x 70 ho B 77 i0 _ 6 48 Try.underlying70 hi hz hsz hb (by simp [Value.cells]) (by decide) v n xs hs hv1 ⟨W.heap.size, 0, none⟩ 1 1 (gv u) hx rfl nw (gv_one u) (by decide) (by unfold maxLen; omega) (by omega) (by rw [size_alloc]; omega) (W.heap.size + 1) (size_alloc _ _) ?_
  intro g cap w' own grow lies lt
  refine h _ w' own ?_
  have h1 : Only (fun q => v.ownBlock = some q) (W.alloc (.cells (gv u).toArray 77)) w' := grown_only grow
  exact (Only.of_below ((Below.refl _ _).alloc (Nat.le_refl _) _)).trans h1

/-- a desk that is being made: its own block, and its two lists -/
structure Mk (w wr : World) (gp gd : Nat) (p0 p1 p2 v s : Value) (D : List Gst) (Q : List Int) : Prop where
  pol : RowAt wr gp 26 [p0, p1, p2]
  obj : RowAt wr gd 72 [v, s]
  gs : wr.ownsRow w.heap.size 77 6 v D.length (gsv D)
  ss : wr.ownsRow w.heap.size 3 1 s Q.length (Q.map (Value.int IntKind.i64))
  ge : w.heap.size ≤ gd
  bel : Below w.heap.size w wr
theorem Mk.call {w wr w' : World} {gp gd : Nat} {p0 p1 p2 v s : Value} {D : List Gst} {Q : List Int} (h : Mk w wr gp gd p0 p1 p2 v s D Q) (hb : Below wr.heap.size wr w') : Mk w w' gp gd p0 p1 p2 v s D Q :=
  ⟨h.pol.below hb h.pol.lt, h.obj.below hb h.obj.lt, own_call h.gs hb, own_call h.ss hb, h.ge, h.bel.trans (hb.mono h.bel.size)⟩
theorem tag_ne {w : World} {b s n g : Nat} {e t : TypeId} {v : Value} {xs cs : List Value} (h : w.ownsRow b e s v n xs) (hr : RowAt w g t cs) (ht : e ≠ t) : v.ownBlock ≠ some g := by
  intro hk
  rcases h.2 with ⟨rfl, _⟩ | ⟨g', c, cur, rfl, _, e', _⟩
  · cases hk
  obtain rfl : g' = g := by simpa [Value.ownBlock] using hk
  unfold RowAt at hr
  rw [hr] at e'
  simp at e'
  exact ht e'.2.symm
theorem own_two {w : World} {b1 b2 s1 s2 n1 n2 : Nat} {e1 e2 : TypeId} {v1 v2 : Value} {x1 x2 : List Value} (h1 : w.ownsRow b1 e1 s1 v1 n1 x1) (h2 : w.ownsRow b2 e2 s2 v2 n2 x2) (he : e1 ≠ e2) : ∀ k, v1.ownBlock = some k → v2.ownBlock ≠ some k := by
  intro k hk1 hk2
  rcases h1.2 with ⟨rfl, _⟩ | ⟨g, c, cur, rfl, _, e, _⟩
  · cases hk1
  rcases h2.2 with ⟨rfl, _⟩ | ⟨g', c', cur', rfl, _, e', _⟩
  · cases hk2
  obtain rfl : g = k := by simpa [Value.ownBlock] using hk1
  obtain rfl : g' = g := by simpa [Value.ownBlock] using hk2
  rw [e] at e'
  simp at e'
  exact he e'.2
theorem wp_append_int {o : Oper} {a : Act} {K : Act → World → Prop} {Q : Exit → Act → World → Prop} {W : World} (s x : Operand)
    (ho : o.op = .call { callee := .builtin .append, args := #[s, x], argTypes := #[41, 41] }) (B : Nat) (v : Value) (n : Nat) (xs : List Value) (u : Int)
    (hs : a.eval s = v) (hv : W.ownsRow B 3 1 v n xs) (hn : n ≤ 1000) (hB : B ≤ W.heap.size) (hx : a.eval x = .slice (some ⟨W.heap.size, 0, none⟩) 1 1)
    (h : ∀ v' w', w'.ownsRow B 3 1 v' (n + 1) (xs ++ [.int .i64 u]) → Only (fun q => v.ownBlock = some q) W w' → K (a.put o.dst v') w') : o.wp Try.prog a (W.alloc (.cells #[.int .i64 u] 3)) K Q := by
  obtain ⟨i0, hi, hz, hsz, hb⟩ := info_parts info3
  have nw : ∀ k y, ([.int .i64 u] : List Value)[k]? = some y → (W.alloc (.cells #[.int .i64 u] 3)).cell? ((⟨W.heap.size, 0, none⟩ : Addr).add k) = some y := by
    intro k y hk
    rw [add_plain, Nat.zero_add, (RowAt.new W 3 [.int .i64 u]).cell]
    exact hk
  have hv1 : (W.alloc (.cells #[.int .i64 u] 3)).ownsRow B 3 1 v n xs := World.ownsRow.alloc hv _
  refine wp_append_lies _ s x 41 ho B 3 i0 _ 1 8 Try.underlying41 hi hz hsz hb (by simp [Value.cells]) (by decide) v n xs hs hv1 ⟨W.heap.size, 0, none⟩ 1 1 [.int .i64 u] hx rfl nw (fun y hy => by obtain rfl := List.mem_singleton.1 hy; rfl) (by decide) (by unfold maxLen; omega) (by omega) (by rw [size_alloc]; omega) (W.heap.size + 1) (size_alloc _ _) ?_
  intro g cap w' own grow lies lt
  refine h _ w' own ?_
  have h1 : Only (fun q => v.ownBlock = some q) (W.alloc (.cells #[.int .i64 u] 3)) w' := grown_only grow
  exact (Only.of_below ((Below.refl _ _).alloc (Nat.le_refl _) _)).trans h1
theorem gsv_app (D : List Gst) (u : Gst) : gsv (D ++ [u]) = gsv D ++ gv u := by simp [gsv]
/-- one more guest -/
theorem Mk.guest {w wr w2 : World} {gp gd : Nat} {p0 p1 p2 v v' s : Value} {D : List Gst} {Q : List Int} (h : Mk w wr gp gd p0 p1 p2 v s D Q) (u : Gst) (ho : w2.ownsRow w.heap.size 77 6 v' (D.length + 1) (gsv D ++ gv u)) (hn : Only (fun q => v.ownBlock = some q) wr w2) :
    Mk w (w2.setCell ⟨gd, 0, none⟩ v') gp gd p0 p1 p2 v' s (D ++ [u]) Q := by
  have e1 : v.ownBlock ≠ some gd := tag_ne h.gs h.obj (by decide)
  have e2 : v.ownBlock ≠ some gp := tag_ne h.gs h.pol (by decide)
  have obj2 : RowAt w2 gd 72 [v, s] := h.obj.only hn e1
  have pol2 : RowAt w2 gp 26 [p0, p1, p2] := h.pol.only hn e2
  have ss2 := own_only h.ss hn (fun k hk hk2 => own_two h.gs h.ss (by decide) k hk2 hk)
  have hpd : gp ≠ gd := by
    intro e
    have a1 := pol2
    have a2 := obj2
    unfold RowAt at a1 a2
    rw [e, a2] at a1
    simp at a1
  have on : Only (· = gd) w2 (w2.setCell ⟨gd, 0, none⟩ v') := (Only.refl (· = gd) w2).set gd 0 v' rfl
  refine ⟨pol2.only on hpd, obj2.set 0 v', ?_, own_only ss2 on (fun k hk e => tag_ne ss2 obj2 (by decide) (e ▸ hk)), h.ge, ?_⟩
  · rw [List.length_append, List.length_singleton, gsv_app]
    exact own_only ho on (fun k hk e => tag_ne ho obj2 (by decide) (e ▸ hk))
  · exact (h.bel.trans (hn.below h.bel.size (fun k hk => (h.gs.lt k hk).1))).trans (on.below (Nat.le_trans h.bel.size hn.size) (fun k hk => hk ▸ h.ge))
/-- one more label's seats -/
theorem Mk.seat {w wr w2 : World} {gp gd : Nat} {p0 p1 p2 v s s' : Value} {D : List Gst} {Q : List Int} (h : Mk w wr gp gd p0 p1 p2 v s D Q) (u : Int) (ho : w2.ownsRow w.heap.size 3 1 s' (Q.length + 1) (Q.map (Value.int IntKind.i64) ++ [.int .i64 u])) (hn : Only (fun q => s.ownBlock = some q) wr w2) :
    Mk w (w2.setCell ⟨gd, 1, none⟩ s') gp gd p0 p1 p2 v s' D (Q ++ [u]) := by
  have e1 : s.ownBlock ≠ some gd := tag_ne h.ss h.obj (by decide)
  have e2 : s.ownBlock ≠ some gp := tag_ne h.ss h.pol (by decide)
  have obj2 : RowAt w2 gd 72 [v, s] := h.obj.only hn e1
  have pol2 : RowAt w2 gp 26 [p0, p1, p2] := h.pol.only hn e2
  have gs2 := own_only h.gs hn (fun k hk hk2 => own_two h.ss h.gs (by decide) k hk2 hk)
  have hpd : gp ≠ gd := by
    intro e
    have a1 := pol2
    have a2 := obj2
    unfold RowAt at a1 a2
    rw [e, a2] at a1
    simp at a1
  have on : Only (· = gd) w2 (w2.setCell ⟨gd, 1, none⟩ s') := (Only.refl (· = gd) w2).set gd 1 s' rfl
  refine ⟨pol2.only on hpd, obj2.set 1 s', own_only gs2 on (fun k hk e => tag_ne gs2 obj2 (by decide) (e ▸ hk)), ?_, h.ge, ?_⟩
  · rw [List.length_append, List.length_singleton, List.map_append]
    exact own_only ho on (fun k hk e => tag_ne ho obj2 (by decide) (e ▸ hk))
  · exact (h.bel.trans (hn.below h.bel.size (fun k hk => (h.ss.lt k hk).1))).trans (on.below (Nat.le_trans h.bel.size hn.size) (fun k hk => hk ▸ h.ge))
/-- a guest of a new desk -/
def newG (E : Nat → Int) (j : Nat) : Gst := ⟨E j, 0, false, 0, 0, 0⟩
set_option maxRecDepth 100000 in
set_option maxHeartbeats 4000000 in
theorem new_ok (a0 a1 a2 : Option Addr) (n0 n1 n2 c0 c1 c2 : Nat) (L C Q1 Q2 Q3 E : Nat → Int) (S : Nat → ByteArray) (Dw : Nat → Bool) (w : World)
    (pl : PolLabs w a0 n0 L C) (pq : PolQuos w a1 n1 Q1 Q2 Q3) (pe : PolEnts w a2 n2 E S Dw) (hc0 : n0 ≤ c0) (hm0 : c0 ≤ maxLen) (hr : rightN n0 n1 n2 L C Q1 Q2 Q3 E S = 0) (hn2 : n2 ≤ 8) (hn1 : n1 ≤ 32) :
    Calls Try.prog 12 #[.agg #[.slice a0 n0 c0, .slice a1 n1 c1, .slice a2 n2 c2]] w fun e w' => ∃ gd v s, e = .returned (.tuple #[.pointer (some ⟨gd, 0, none⟩), .int .i64 0]) ∧ Mk w w' w.heap.size gd (.slice a0 n0 c0) (.slice a1 n1 c1) (.slice a2 n2 c2) v s ((List.range n2).map (newG E)) ((List.range n1).map Q3) := by
  have HB1 : Hid (Below w.heap.size w (w.alloc (.cells #[.slice a0 n0 c0, .slice a1 n1 c1, .slice a2 n2 c2] 26))) := hide ((Below.refl _ _).alloc (Nat.le_refl _) _)
  have HRT := hide (right_any a0 a1 a2 n0 n1 n2 c0 c1 c2 L C Q1 Q2 Q3 E S Dw _ (pl.call (unhide HB1)) (pq.call (unhide HB1)) (pe.call (unhide HB1)) hc0 hm0)
  rw [hr] at HRT
  have HPE := hide pe
  have HPQ := hide pq
  have n2I : (n2 : Int) ≤ 8 := by omega
  have n1I : (n1 : Int) ≤ 32 := by omega
  have HR0 : Hid (RowAt (w.alloc (.cells #[.slice a0 n0 c0, .slice a1 n1 c1, .slice a2 n2 c2] 26)) w.heap.size 26 [.slice a0 n0 c0, .slice a1 n1 c1, .slice a2 n2 c2]) := hide (RowAt.new w 26 [.slice a0 n0 c0, .slice a1 n1 c1, .slice a2 n2 c2])
  clear pl pq pe hr
  go_enter Try.func12, Try.ntmps12
  go_wp2_with fail
  refine Calls.mono (unhide HRT) ?_
  rintro e w1 ⟨rfl, b1⟩
  have HM1 : Hid (Mk w (w1.alloc (.cells #[.slice none 0 0, .slice none 0 0] 72)) w.heap.size w1.heap.size (.slice a0 n0 c0) (.slice a1 n1 c1) (.slice a2 n2 c2) (.slice none 0 0) (.slice none 0 0) [] []) := hide (by
    have hb := (unhide HB1).trans (b1.mono (unhide HB1).size)
    have hb2 : Below w1.heap.size w1 (w1.alloc (.cells #[.slice none 0 0, .slice none 0 0] 72)) := (Below.refl _ _).alloc (Nat.le_refl _) _
    exact ⟨((unhide HR0).below b1 (unhide HR0).lt).below hb2 (Nat.lt_of_lt_of_le (unhide HR0).lt b1.size), RowAt.new w1 72 [.slice none 0 0, .slice none 0 0], World.ownsRow_nil _ _ _ _, World.ownsRow_nil _ _ _ _, hb.size, hb.trans (hb2.mono hb.size)⟩)
  have cp2 : (w1.alloc (.cells #[.slice none 0 0, .slice none 0 0] 72)).cell? ⟨w.heap.size, 2, none⟩ = some (.slice a2 n2 c2) := (unhide HM1).pol.cell 2
  clear b1 HRT HR0
  go_wp2_with fail
  obtain ⟨gd, hgd⟩ : ∃ q, w1.heap.size = q := ⟨_, rfl⟩
  rw [hgd] at HM1 ⊢
  generalize w1.alloc (.cells #[.slice none 0 0, .slice none 0 0] 72) = w2 at *
  clear hgd cp2
  go_loopw [20] (fun s wr => ∃ k : Nat, k ≤ n2 ∧ s = .int .i64 (k : Int) ∧ Hid (∃ v, Mk w wr w.heap.size gd (.slice a0 n0 c0) (.slice a1 n1 c1) (.slice a2 n2 c2) v (.slice none 0 0) ((List.range k).map (newG E)) [])) (fun s _ => (n2 - intOf s).toNat)
  case atStart => exact ⟨0, by omega, by simp, hide ⟨_, unhide HM1⟩⟩
  case round =>
    obtain ⟨k, hk, rfl, HI⟩ := hrel
    by_cases hlt : k < n2
    · obtain ⟨v, hm⟩ := unhide HI
      obtain ⟨_, _, hpe⟩ := unhide HPE
      rcases hpe with h0 | ⟨b, off, rfl, hb, hrow⟩
      · omega
      have hc := hrow k hlt
      have keep : ∀ (q : Addr) (x : Value), w.cell? q = some x → wr.cell? q = some x := fun q x hq => (World.cell?_of_block (hm.bel.block _ (World.block_lt_of_cell? _ _ hq))).trans hq
      have e0 := keep _ _ hc.1
      have e1 := keep _ _ hc.2.1
      have e2 := keep _ _ hc.2.2
      have kI : (k : Int) < (n2 : Int) := by omega
      have hDl : ((List.range k).map (newG E)).length = k := by rw [List.length_map, List.length_range]
      obtain ⟨va, vc, hv⟩ : ∃ va vc, v = .slice va k vc := by
        rcases hm.gs.2 with ⟨rfl, h0⟩ | ⟨g', c', cur, rfl, _⟩
        · rw [hDl] at h0; subst h0; exact ⟨_, _, rfl⟩
        · rw [hDl]; exact ⟨_, _, rfl⟩
      subst hv
      have HMR := hide hm
      have b3 : Below wr.heap.size wr (wr.alloc (.cells #[.int .i64 (E k), .string (S k), .bool (Dw k)] 63)) := (Below.refl _ _).alloc (Nat.le_refl _) _
      have HMA := hide (hm.call b3)
      have cgd : (wr.alloc (.cells #[.int .i64 (E k), .string (S k), .bool (Dw k)] 63)).drew.cell? ⟨gd, 0, none⟩ = some (.slice va k vc) := (hm.call b3).obj.cell 0
      have cge : (wr.alloc (.cells #[.int .i64 (E k), .string (S k), .bool (Dw k)] 63)).drew.cell? ⟨wr.heap.size, 0, none⟩ = some (.int .i64 (E k)) := (RowAt.new wr 63 [.int .i64 (E k), .string (S k), .bool (Dw k)]).cell 0
      have hge : RowAt (wr.alloc (.cells #[.int .i64 (E k), .string (S k), .bool (Dw k)] 63)) wr.heap.size 63 [.int .i64 (E k), .string (S k), .bool (Dw k)] := RowAt.new wr 63 _
      have HGE := hide hge
      have hgs := (hm.call b3).gs
      rw [hDl] at hgs
      have HOWN : Hid ((wr.alloc (.cells #[.int .i64 (E k), .string (S k), .bool (Dw k)] 63)).drew.ownsRow w.heap.size 77 6 (.slice va k vc) k (gsv ((List.range k).map (newG E)))) := hide (own_call hgs (Below.refl _ _).drew)
      have HDL := hide hDl
      clear hc keep hm hb hrow HI b3 hDl hge hgs
      go_wp2_with fail
      generalize wr.alloc (.cells #[.int .i64 (E k), .string (S k), .bool (Dw k)] 63) = wa at *
      have HSZ : Hid (w.heap.size ≤ wa.drew.heap.size) := hide (unhide HMA).bel.size
      have sk1 : (wa.alloc (.cells #[.int .i64 (E k), .int .i64 0, .bool false, .int .i64 0, .int .i64 0, .int .i64 0] 77)).drew.cell? ⟨gd, 0, none⟩ = some (.slice va k vc) ∧ (wa.alloc (.cells #[.int .i64 (E k), .int .i64 0, .bool false, .int .i64 0, .int .i64 0, .int .i64 0] 77)).drew.cell? ⟨wr.heap.size, 0, none⟩ = some (.int .i64 (E k)) := by
        have hb : Below wa.heap.size wa (wa.alloc (.cells #[.int .i64 (E k), .int .i64 0, .bool false, .int .i64 0, .int .i64 0, .int .i64 0] 77)) := (Below.refl _ _).alloc (Nat.le_refl _) _
        exact ⟨((unhide HMA).call hb).obj.cell 0, ((unhide HGE).below hb (unhide HGE).lt).cell 0⟩
      have HKP : Hid (∀ w3, Only (fun q => (Value.slice va k vc).ownBlock = some q) wa.drew w3 → w3.cell? ⟨gd, 0, none⟩ = some (.slice va k vc) ∧ w3.cell? ⟨wr.heap.size, 0, none⟩ = some (.int .i64 (E k))) := hide (fun w3 ho => ⟨((unhide HMA).obj.drew.only ho (tag_ne (unhide HOWN) (unhide HMA).obj.drew (by decide))).cell 0, ((unhide HGE).drew.only ho (tag_ne (unhide HOWN) (unhide HGE).drew (by decide))).cell 0⟩)
      have HFZ : Hid (∀ w3, Only (fun q => (Value.slice va k vc).ownBlock = some q) wa.drew w3 → w3.frozen? ⟨gd, 0, none⟩ = false) := hide (fun w3 ho => ((unhide HMA).obj.drew.only ho (tag_ne (unhide HOWN) (unhide HMA).obj.drew (by decide))).frozen 0)
      have HNX : Hid (∀ v2 w3, w3.ownsRow w.heap.size 77 6 v2 (k + 1) (gsv ((List.range k).map (newG E)) ++ gv (newG E k)) → Only (fun q => (Value.slice va k vc).ownBlock = some q) wa.drew w3 → ∃ v, Mk w (w3.setCell ⟨gd, 0, none⟩ v2) w.heap.size gd (.slice a0 n0 c0) (.slice a1 n1 c1) (.slice (some ⟨b, off, none⟩) n2 c2) v (.slice none 0 0) ((List.range (k + 1)).map (newG E)) []) := hide (fun v2 w3 ho hn => by
        refine ⟨v2, ?_⟩
        rw [List.range_succ, List.map_append]
        exact Mk.guest ((unhide HMA).call (Below.refl _ _).drew) (newG E k) (by rw [unhide HDL]; exact ho) hn)
      refine wp_region_T (S := fun w' => (w'.cell? ⟨gd, 0, none⟩ = some (.slice va k vc) ∧ w'.cell? ⟨wr.heap.size, 0, none⟩ = some (.int .i64 (E k)))) (fun i => decide (i < 10)) (by kernel_rfl) ⟨cgd, cge⟩ (fun hHeld => ?_)
      refine wpAnyT_take (i := 0) (oi := { dst := some 24, op := Op.move (Operand.tmp 5), type := 30, pos := "desk.go:32", after := #[], guard := none }) (v := .pointer (some ⟨gd, 0, none⟩)) rfl (by kernel_rfl) (by kernel_rfl) (by kernel_rfl) (by kernel_rfl) (fun _ _ _ h => h) (Or.inl ⟨by rfl, ?_⟩) hHeld ?_
      · intro w hSw
        first
          | rfl
          | (go_simp; done)
      try simp only [Act.put, List.setIfInBounds_toArray, List.set_cons_zero, List.set_cons_succ]
      refine wpAnyT_take (i := 1) (oi := { dst := some 25, op := Op.move (Operand.tmp 5), type := 30, pos := "desk.go:32", after := #[], guard := none }) (v := .pointer (some ⟨gd, 0, none⟩)) rfl (by kernel_rfl) (by kernel_rfl) (by kernel_rfl) (by kernel_rfl) (fun _ _ _ h => h) (Or.inl ⟨by rfl, ?_⟩) hHeld ?_
      · intro w hSw
        first
          | rfl
          | (go_simp; done)
      try simp only [Act.put, List.setIfInBounds_toArray, List.set_cons_zero, List.set_cons_succ]
      refine wpAnyT_take (i := 2) (oi := { dst := some 26, op := Op.nilCheck (Operand.tmp 25), type := 0, pos := "desk.go:32", after := #[{ on := 1, ground := Ground.data }], guard := none }) (v := .pointer (some ⟨gd, 0, none⟩)) rfl (by kernel_rfl) (by kernel_rfl) (by kernel_rfl) (by kernel_rfl) (fun _ _ _ h => h) (Or.inl ⟨by rfl, ?_⟩) hHeld ?_
      · intro w hSw
        first
          | rfl
          | (go_simp; done)
      try simp only [Act.put, List.setIfInBounds_toArray, List.set_cons_zero, List.set_cons_succ]
      refine wpAnyT_take (i := 3) (oi := { dst := some 27, op := Op.fieldAddr 72 (Operand.tmp 26) 0, type := 0, pos := "desk.go:32", after := #[{ on := 2, ground := Ground.data }], guard := none }) (v := .pointer (some ⟨gd, 0, none⟩)) rfl (by kernel_rfl) (by kernel_rfl) (by kernel_rfl) (by kernel_rfl) (fun _ _ _ h => h) (Or.inl ⟨by rfl, ?_⟩) hHeld ?_
      · intro w hSw
        first
          | rfl
          | (go_simp; done)
      try simp only [Act.put, List.setIfInBounds_toArray, List.set_cons_zero, List.set_cons_succ]
      refine wpAnyT_take (i := 4) (oi := { dst := some 28, op := Op.load 70 (Operand.tmp 27), type := 70, pos := "desk.go:32", after := #[{ on := 3, ground := Ground.data }], guard := none }) (v := .slice va k vc) rfl (by kernel_rfl) (by kernel_rfl) (by kernel_rfl) (by kernel_rfl) (fun _ _ _ h => h) (Or.inl ⟨by rfl, ?_⟩) hHeld ?_
      · intro w hSw
        obtain ⟨h1, h2⟩ := hSw
        first
          | rfl
          | (go_simp; done)
      try simp only [Act.put, List.setIfInBounds_toArray, List.set_cons_zero, List.set_cons_succ]
      refine wpAnyT_take (i := 5) (oi := { dst := some 29, op := Op.fieldAddr 63 (Operand.tmp 7) 0, type := 0, pos := "desk.go:32", after := #[], guard := none }) (v := .pointer (some ⟨wr.heap.size, 0, none⟩)) rfl (by kernel_rfl) (by kernel_rfl) (by kernel_rfl) (by kernel_rfl) (fun _ _ _ h => h) (Or.inl ⟨by rfl, ?_⟩) hHeld ?_
      · intro w hSw
        first
          | rfl
          | (go_simp; done)
      try simp only [Act.put, List.setIfInBounds_toArray, List.set_cons_zero, List.set_cons_succ]
      refine wpAnyT_take (i := 6) (oi := { dst := some 30, op := Op.load 3 (Operand.tmp 29), type := 3, pos := "desk.go:32", after := #[{ on := 5, ground := Ground.data }], guard := none }) (v := .int .i64 (E k)) rfl (by kernel_rfl) (by kernel_rfl) (by kernel_rfl) (by kernel_rfl) (fun _ _ _ h => h) (Or.inl ⟨by rfl, ?_⟩) hHeld ?_
      · intro w hSw
        obtain ⟨h1, h2⟩ := hSw
        first
          | rfl
          | (go_simp; done)
      try simp only [Act.put, List.setIfInBounds_toArray, List.set_cons_zero, List.set_cons_succ]
      refine wpAnyT_take (i := 7) (oi := { dst := some 31, op := Op.build 77 #[(0, Operand.tmp 30)], type := 77, pos := "desk.go:32", after := #[{ on := 6, ground := Ground.data }], guard := none }) (v := .agg #[.int .i64 (E k), .int .i64 0, .bool false, .int .i64 0, .int .i64 0, .int .i64 0]) rfl (by kernel_rfl) (by kernel_rfl) (by kernel_rfl) (by kernel_rfl) (fun _ _ _ h => h) (Or.inl ⟨by rfl, ?_⟩) hHeld ?_
      · intro w hSw
        first
          | rfl
          | (go_simp; done)
      try simp only [Act.put, List.setIfInBounds_toArray, List.set_cons_zero, List.set_cons_succ]
      refine wpAnyT_one (i := 8) (o := { dst := some 32, op := Op.buildSlice 70 1 #[(0, Operand.tmp 31)], type := 70, pos := "desk.go:32", after := #[{ on := 7, ground := Ground.data }], guard := none }) (by kernel_rfl) rfl (fun K hK => ?_)
      go_simp
      refine hK.out _ _ (fun _ => sk1) ?_
      clear hK K
      try simp only [Act.put, List.setIfInBounds_toArray, List.set_cons_zero, List.set_cons_succ]
      refine wpAnyT_one (i := 9) (o := { dst := some 33, op := Op.call { callee := Callee.builtin Builtin.append, args := #[Operand.tmp 28, Operand.tmp 32], argTypes := #[70, 70] }, type := 70, pos := "desk.go:32", after := #[{ on := 4, ground := Ground.data }, { on := 8, ground := Ground.data }], guard := none }) (by kernel_rfl) rfl (fun K hK => ?_)
      rw [if_pos (by rfl)]
      refine wp_append_gst (W := wa.drew) _ _ rfl w.heap.size (.slice va k vc) k (gsv ((List.range k).map (newG E))) (newG E k) rfl (unhide HOWN) (by omega) (unhide HSZ) rfl (fun v2 w3 hv2 ho2 => ?_)
      obtain ⟨sa2, sb2⟩ := unhide HKP w3 ho2
      refine hK.out _ _ (fun _ => ⟨sa2, sb2⟩) ?_
      clear hK K
      try simp only [Act.put, List.setIfInBounds_toArray, List.set_cons_zero, List.set_cons_succ]
      have z3 : w3.frozen? ⟨gd, 0, none⟩ = false := unhide HFZ w3 ho2
      obtain ⟨v2a, v2c, hv2s⟩ : ∃ a c, v2 = .slice a (k + 1) c := by
        rcases hv2.2 with ⟨_, h0⟩ | ⟨g9, c9, cur9, h9, _⟩
        · omega
        · exact ⟨_, _, h9⟩
      subst hv2s
      have HN := hide (unhide HNX _ w3 hv2 ho2)
      clear hv2 ho2
      refine wpAnyT_pure (i := 10) (oi := { dst := some 34, op := Op.nilCheck (Operand.tmp 24), type := 0, pos := "desk.go:32", after := #[{ on := 0, ground := Ground.data }, { on := 0, ground := Ground.phase }, { on := 1, ground := Ground.phase }, { on := 2, ground := Ground.phase }, { on := 3, ground := Ground.phase }, { on := 4, ground := Ground.phase }, { on := 5, ground := Ground.phase }, { on := 6, ground := Ground.phase }, { on := 7, ground := Ground.phase }, { on := 8, ground := Ground.phase }, { on := 9, ground := Ground.phase }], guard := none }) (v := .pointer (some ⟨gd, 0, none⟩)) rfl (by kernel_rfl) (by kernel_rfl) (by kernel_rfl) rfl (fun _ _ _ h => h) (Or.inl ⟨by rfl, ?_⟩) ?_
      · intro w hSw
        first
          | rfl
          | (go_simp; done)
      try simp only [Act.put, List.setIfInBounds_toArray, List.set_cons_zero, List.set_cons_succ]
      refine wpAnyT_pure (i := 11) (oi := { dst := some 35, op := Op.fieldAddr 72 (Operand.tmp 34) 0, type := 0, pos := "desk.go:32", after := #[{ on := 10, ground := Ground.data }, { on := 0, ground := Ground.phase }, { on := 1, ground := Ground.phase }, { on := 2, ground := Ground.phase }, { on := 3, ground := Ground.phase }, { on := 4, ground := Ground.phase }, { on := 5, ground := Ground.phase }, { on := 6, ground := Ground.phase }, { on := 7, ground := Ground.phase }, { on := 8, ground := Ground.phase }, { on := 9, ground := Ground.phase }], guard := none }) (v := .pointer (some ⟨gd, 0, none⟩)) rfl (by kernel_rfl) (by kernel_rfl) (by kernel_rfl) rfl (fun _ _ _ h => h) (Or.inl ⟨by rfl, ?_⟩) ?_
      · intro w hSw
        first
          | rfl
          | (go_simp; done)
      try simp only [Act.put, List.setIfInBounds_toArray, List.set_cons_zero, List.set_cons_succ]
      refine wpAnyT_one (i := 12) (o := { dst := none, op := Op.store 70 (Operand.tmp 35) (Operand.tmp 33), type := 0, pos := "desk.go:32", after := #[{ on := 11, ground := Ground.data }, { on := 9, ground := Ground.data }, { on := 9, ground := Ground.chain }, { on := 0, ground := Ground.phase }, { on := 1, ground := Ground.phase }, { on := 2, ground := Ground.phase }, { on := 3, ground := Ground.phase }, { on := 4, ground := Ground.phase }, { on := 5, ground := Ground.phase }, { on := 6, ground := Ground.phase }, { on := 7, ground := Ground.phase }, { on := 8, ground := Ground.phase }, { on := 9, ground := Ground.phase }], guard := none }) (by kernel_rfl) rfl (fun K hK => ?_)
      go_simp
      refine hK.out _ _ (fun h => by cases h) ?_
      clear hK K
      try simp only [Act.put, List.setIfInBounds_toArray, List.set_cons_zero, List.set_cons_succ]
      refine wpAnyT_done (by kernel_rfl) ?_ _
      go_wp2_with fail
      go_roundw
      case rel => exact ⟨k + 1, by omega, by simp, HN⟩
      case measure => simp [intOf]; omega
    · obtain ⟨n2', hn2'⟩ : ∃ q, q = k := ⟨_, rfl⟩
      subst hn2'
      obtain rfl : n2' = n2 := by omega
      have kI : ¬ (n2' : Int) < (n2' : Int) := by omega
      obtain ⟨v, hm⟩ := unhide HI
      have cp1 : wr.cell? ⟨w.heap.size, 1, none⟩ = some (.slice a1 n1 c1) := hm.pol.cell 1
      have HM2 := hide hm
      obtain ⟨GS, hGS⟩ : ∃ D, (List.range n2').map (newG E) = D := ⟨_, rfl⟩
      have HGS := hide hGS
      rw [hGS] at HM2
      clear hm HI hlt hk hGS HM1
      go_wp2_with fail
      clear cp1
      generalize wr = w3 at *
      go_loopw [40] (fun s wr => ∃ k : Nat, k ≤ n1 ∧ s = .int .i64 (k : Int) ∧ Hid (∃ s, Mk w wr w.heap.size gd (.slice a0 n0 c0) (.slice a1 n1 c1) (.slice a2 n2' c2) v s GS ((List.range k).map Q3))) (fun s _ => (n1 - intOf s).toNat)
      case atStart => exact ⟨0, by omega, by simp, hide ⟨_, unhide HM2⟩⟩
      case round =>
        obtain ⟨k, hk, rfl, HI⟩ := hrel
        by_cases hlt : k < n1
        · obtain ⟨sv, hm⟩ := unhide HI
          obtain ⟨_, _, hpq⟩ := unhide HPQ
          rcases hpq with h0 | ⟨b, off, rfl, hb, hrow⟩
          · omega
          have hc := hrow k hlt
          have keep : ∀ (q : Addr) (x : Value), w.cell? q = some x → wr.cell? q = some x := fun q x hq => (World.cell?_of_block (hm.bel.block _ (World.block_lt_of_cell? _ _ hq))).trans hq
          have e0 := keep _ _ hc.1
          have e1 := keep _ _ hc.2.1
          have e2 := keep _ _ hc.2.2
          have kI : (k : Int) < (n1 : Int) := by omega
          have hDl : ((List.range k).map Q3).length = k := by rw [List.length_map, List.length_range]
          obtain ⟨sa, sc, hv⟩ : ∃ va vc, sv = .slice va k vc := by
            rcases hm.ss.2 with ⟨rfl, h0⟩ | ⟨g', c', cur, rfl, _⟩
            · rw [hDl] at h0; subst h0; exact ⟨_, _, rfl⟩
            · rw [hDl]; exact ⟨_, _, rfl⟩
          subst hv
          have b3 : Below wr.heap.size wr (wr.alloc (.cells #[.int .i64 (Q1 k), .int .i64 (Q2 k), .int .i64 (Q3 k)] 60)) := (Below.refl _ _).alloc (Nat.le_refl _) _
          have HMA := hide (hm.call b3)
          have cgd : (wr.alloc (.cells #[.int .i64 (Q1 k), .int .i64 (Q2 k), .int .i64 (Q3 k)] 60)).drew.cell? ⟨gd, 1, none⟩ = some (.slice sa k sc) := (hm.call b3).obj.cell 1
          have cge : (wr.alloc (.cells #[.int .i64 (Q1 k), .int .i64 (Q2 k), .int .i64 (Q3 k)] 60)).drew.cell? ⟨wr.heap.size, 2, none⟩ = some (.int .i64 (Q3 k)) := (RowAt.new wr 60 [.int .i64 (Q1 k), .int .i64 (Q2 k), .int .i64 (Q3 k)]).cell 2
          have hge : RowAt (wr.alloc (.cells #[.int .i64 (Q1 k), .int .i64 (Q2 k), .int .i64 (Q3 k)] 60)) wr.heap.size 60 [.int .i64 (Q1 k), .int .i64 (Q2 k), .int .i64 (Q3 k)] := RowAt.new wr 60 _
          have HGE := hide hge
          have hgs := (hm.call b3).ss
          rw [hDl] at hgs
          have HOWN : Hid ((wr.alloc (.cells #[.int .i64 (Q1 k), .int .i64 (Q2 k), .int .i64 (Q3 k)] 60)).drew.ownsRow w.heap.size 3 1 (.slice sa k sc) k (((List.range k).map Q3).map (Value.int IntKind.i64))) := hide (own_call hgs (Below.refl _ _).drew)
          have HDL := hide hDl
          clear hc keep hm hb hrow HI b3 hDl hge hgs
          go_wp2_with fail
          generalize wr.alloc (.cells #[.int .i64 (Q1 k), .int .i64 (Q2 k), .int .i64 (Q3 k)] 60) = wa at *
          have HSZ : Hid (w.heap.size ≤ wa.drew.heap.size) := hide (unhide HMA).bel.size
          have sk1 : (wa.alloc (.cells #[.int .i64 (Q3 k)] 3)).drew.cell? ⟨gd, 1, none⟩ = some (.slice sa k sc) ∧ (wa.alloc (.cells #[.int .i64 (Q3 k)] 3)).drew.cell? ⟨wr.heap.size, 2, none⟩ = some (.int .i64 (Q3 k)) := by
            have hb : Below wa.heap.size wa (wa.alloc (.cells #[.int .i64 (Q3 k)] 3)) := (Below.refl _ _).alloc (Nat.le_refl _) _
            exact ⟨((unhide HMA).call hb).obj.cell 1, ((unhide HGE).below hb (unhide HGE).lt).cell 2⟩
          have HKP : Hid (∀ w3, Only (fun q => (Value.slice sa k sc).ownBlock = some q) wa.drew w3 → w3.cell? ⟨gd, 1, none⟩ = some (.slice sa k sc) ∧ w3.cell? ⟨wr.heap.size, 2, none⟩ = some (.int .i64 (Q3 k))) := hide (fun w3 ho => ⟨((unhide HMA).obj.drew.only ho (tag_ne (unhide HOWN) (unhide HMA).obj.drew (by decide))).cell 1, ((unhide HGE).drew.only ho (tag_ne (unhide HOWN) (unhide HGE).drew (by decide))).cell 2⟩)
          have HFZ : Hid (∀ w3, Only (fun q => (Value.slice sa k sc).ownBlock = some q) wa.drew w3 → w3.frozen? ⟨gd, 1, none⟩ = false) := hide (fun w3 ho => ((unhide HMA).obj.drew.only ho (tag_ne (unhide HOWN) (unhide HMA).obj.drew (by decide))).frozen 1)
          have HNX : Hid (∀ v2 w3, w3.ownsRow w.heap.size 3 1 v2 (k + 1) (((List.range k).map Q3).map (Value.int IntKind.i64) ++ [.int .i64 (Q3 k)]) → Only (fun q => (Value.slice sa k sc).ownBlock = some q) wa.drew w3 → ∃ s, Mk w (w3.setCell ⟨gd, 1, none⟩ v2) w.heap.size gd (.slice a0 n0 c0) (.slice (some ⟨b, off, none⟩) n1 c1) (.slice a2 n2' c2) v s GS ((List.range (k + 1)).map Q3)) := hide (fun v2 w3 ho hn => by
            refine ⟨v2, ?_⟩
            rw [List.range_succ, List.map_append]
            exact Mk.seat ((unhide HMA).call (Below.refl _ _).drew) (Q3 k) (by rw [unhide HDL]; exact ho) hn)
          refine wp_region_T (S := fun w' => (w'.cell? ⟨gd, 1, none⟩ = some (.slice sa k sc) ∧ w'.cell? ⟨wr.heap.size, 2, none⟩ = some (.int .i64 (Q3 k)))) (fun i => decide (i < 9)) (by kernel_rfl) ⟨cgd, cge⟩ (fun hHeld => ?_)
          refine wpAnyT_take (i := 0) (oi := { dst := some 44, op := Op.move (Operand.tmp 5), type := 30, pos := "desk.go:35", after := #[], guard := none }) (v := .pointer (some ⟨gd, 0, none⟩)) rfl (by kernel_rfl) (by kernel_rfl) (by kernel_rfl) (by kernel_rfl) (fun _ _ _ h => h) (Or.inl ⟨by rfl, ?_⟩) hHeld ?_
          · intro w hSw
            first
              | rfl
              | (go_simp; done)
          try simp only [Act.put, List.setIfInBounds_toArray, List.set_cons_zero, List.set_cons_succ]
          refine wpAnyT_take (i := 1) (oi := { dst := some 45, op := Op.move (Operand.tmp 5), type := 30, pos := "desk.go:35", after := #[], guard := none }) (v := .pointer (some ⟨gd, 0, none⟩)) rfl (by kernel_rfl) (by kernel_rfl) (by kernel_rfl) (by kernel_rfl) (fun _ _ _ h => h) (Or.inl ⟨by rfl, ?_⟩) hHeld ?_
          · intro w hSw
            first
              | rfl
              | (go_simp; done)
          try simp only [Act.put, List.setIfInBounds_toArray, List.set_cons_zero, List.set_cons_succ]
          refine wpAnyT_take (i := 2) (oi := { dst := some 46, op := Op.nilCheck (Operand.tmp 45), type := 0, pos := "desk.go:35", after := #[{ on := 1, ground := Ground.data }], guard := none }) (v := .pointer (some ⟨gd, 0, none⟩)) rfl (by kernel_rfl) (by kernel_rfl) (by kernel_rfl) (by kernel_rfl) (fun _ _ _ h => h) (Or.inl ⟨by rfl, ?_⟩) hHeld ?_
          · intro w hSw
            first
              | rfl
              | (go_simp; done)
          try simp only [Act.put, List.setIfInBounds_toArray, List.set_cons_zero, List.set_cons_succ]
          refine wpAnyT_take (i := 3) (oi := { dst := some 47, op := Op.fieldAddr 72 (Operand.tmp 46) 1, type := 0, pos := "desk.go:35", after := #[{ on := 2, ground := Ground.data }], guard := none }) (v := .pointer (some ⟨gd, 1, none⟩)) rfl (by kernel_rfl) (by kernel_rfl) (by kernel_rfl) (by kernel_rfl) (fun _ _ _ h => h) (Or.inl ⟨by rfl, ?_⟩) hHeld ?_
          · intro w hSw
            first
              | rfl
              | (go_simp; done)
          try simp only [Act.put, List.setIfInBounds_toArray, List.set_cons_zero, List.set_cons_succ]
          refine wpAnyT_take (i := 4) (oi := { dst := some 48, op := Op.load 41 (Operand.tmp 47), type := 41, pos := "desk.go:35", after := #[{ on := 3, ground := Ground.data }], guard := none }) (v := .slice sa k sc) rfl (by kernel_rfl) (by kernel_rfl) (by kernel_rfl) (by kernel_rfl) (fun _ _ _ h => h) (Or.inl ⟨by rfl, ?_⟩) hHeld ?_
          · intro w hSw
            obtain ⟨h1, h2⟩ := hSw
            first
              | rfl
              | (go_simp; done)
          try simp only [Act.put, List.setIfInBounds_toArray, List.set_cons_zero, List.set_cons_succ]
          refine wpAnyT_take (i := 5) (oi := { dst := some 49, op := Op.fieldAddr 60 (Operand.tmp 9) 2, type := 0, pos := "desk.go:35", after := #[], guard := none }) (v := .pointer (some ⟨wr.heap.size, 2, none⟩)) rfl (by kernel_rfl) (by kernel_rfl) (by kernel_rfl) (by kernel_rfl) (fun _ _ _ h => h) (Or.inl ⟨by rfl, ?_⟩) hHeld ?_
          · intro w hSw
            first
              | rfl
              | (go_simp; done)
          try simp only [Act.put, List.setIfInBounds_toArray, List.set_cons_zero, List.set_cons_succ]
          refine wpAnyT_take (i := 6) (oi := { dst := some 50, op := Op.load 3 (Operand.tmp 49), type := 3, pos := "desk.go:35", after := #[{ on := 5, ground := Ground.data }], guard := none }) (v := .int .i64 (Q3 k)) rfl (by kernel_rfl) (by kernel_rfl) (by kernel_rfl) (by kernel_rfl) (fun _ _ _ h => h) (Or.inl ⟨by rfl, ?_⟩) hHeld ?_
          · intro w hSw
            obtain ⟨h1, h2⟩ := hSw
            first
              | rfl
              | (go_simp; done)
          try simp only [Act.put, List.setIfInBounds_toArray, List.set_cons_zero, List.set_cons_succ]
          refine wpAnyT_one (i := 7) (o := { dst := some 51, op := Op.buildSlice 41 1 #[(0, Operand.tmp 50)], type := 41, pos := "desk.go:35", after := #[{ on := 6, ground := Ground.data }], guard := none }) (by kernel_rfl) rfl (fun K hK => ?_)
          go_simp
          refine hK.out _ _ (fun _ => sk1) ?_
          clear hK K
          try simp only [Act.put, List.setIfInBounds_toArray, List.set_cons_zero, List.set_cons_succ]
          refine wpAnyT_one (i := 8) (o := { dst := some 52, op := Op.call { callee := Callee.builtin Builtin.append, args := #[Operand.tmp 48, Operand.tmp 51], argTypes := #[41, 41] }, type := 41, pos := "desk.go:35", after := #[{ on := 4, ground := Ground.data }, { on := 7, ground := Ground.data }], guard := none }) (by kernel_rfl) rfl (fun K hK => ?_)
          rw [if_pos (by rfl)]
          refine wp_append_int (W := wa.drew) _ _ rfl w.heap.size (.slice sa k sc) k (((List.range k).map Q3).map (Value.int IntKind.i64)) (Q3 k) rfl (unhide HOWN) (by omega) (unhide HSZ) rfl (fun v2 w3 hv2 ho2 => ?_)
          obtain ⟨sa2, sb2⟩ := unhide HKP w3 ho2
          refine hK.out _ _ (fun _ => ⟨sa2, sb2⟩) ?_
          clear hK K
          try simp only [Act.put, List.setIfInBounds_toArray, List.set_cons_zero, List.set_cons_succ]
          have z3 : w3.frozen? ⟨gd, 1, none⟩ = false := unhide HFZ w3 ho2
          obtain ⟨v2a, v2c, hv2s⟩ : ∃ a c, v2 = .slice a (k + 1) c := by
            rcases hv2.2 with ⟨_, h0⟩ | ⟨g9, c9, cur9, h9, _⟩
            · omega
            · exact ⟨_, _, h9⟩
          subst hv2s
          have HN := hide (unhide HNX _ w3 hv2 ho2)
          clear hv2 ho2
          refine wpAnyT_pure (i := 9) (oi := { dst := some 53, op := Op.nilCheck (Operand.tmp 44), type := 0, pos := "desk.go:35", after := #[{ on := 0, ground := Ground.data }, { on := 0, ground := Ground.phase }, { on := 1, ground := Ground.phase }, { on := 2, ground := Ground.phase }, { on := 3, ground := Ground.phase }, { on := 4, ground := Ground.phase }, { on := 5, ground := Ground.phase }, { on := 6, ground := Ground.phase }, { on := 7, ground := Ground.phase }, { on := 8, ground := Ground.phase }], guard := none }) (v := .pointer (some ⟨gd, 0, none⟩)) rfl (by kernel_rfl) (by kernel_rfl) (by kernel_rfl) rfl (fun _ _ _ h => h) (Or.inl ⟨by rfl, ?_⟩) ?_
          · intro w hSw
            first
              | rfl
              | (go_simp; done)
          try simp only [Act.put, List.setIfInBounds_toArray, List.set_cons_zero, List.set_cons_succ]
          refine wpAnyT_pure (i := 10) (oi := { dst := some 54, op := Op.fieldAddr 72 (Operand.tmp 53) 1, type := 0, pos := "desk.go:35", after := #[{ on := 9, ground := Ground.data }, { on := 0, ground := Ground.phase }, { on := 1, ground := Ground.phase }, { on := 2, ground := Ground.phase }, { on := 3, ground := Ground.phase }, { on := 4, ground := Ground.phase }, { on := 5, ground := Ground.phase }, { on := 6, ground := Ground.phase }, { on := 7, ground := Ground.phase }, { on := 8, ground := Ground.phase }], guard := none }) (v := .pointer (some ⟨gd, 1, none⟩)) rfl (by kernel_rfl) (by kernel_rfl) (by kernel_rfl) rfl (fun _ _ _ h => h) (Or.inl ⟨by rfl, ?_⟩) ?_
          · intro w hSw
            first
              | rfl
              | (go_simp; done)
          try simp only [Act.put, List.setIfInBounds_toArray, List.set_cons_zero, List.set_cons_succ]
          refine wpAnyT_one (i := 11) (o := { dst := none, op := Op.store 41 (Operand.tmp 54) (Operand.tmp 52), type := 0, pos := "desk.go:35", after := #[{ on := 10, ground := Ground.data }, { on := 8, ground := Ground.data }, { on := 8, ground := Ground.chain }, { on := 0, ground := Ground.phase }, { on := 1, ground := Ground.phase }, { on := 2, ground := Ground.phase }, { on := 3, ground := Ground.phase }, { on := 4, ground := Ground.phase }, { on := 5, ground := Ground.phase }, { on := 6, ground := Ground.phase }, { on := 7, ground := Ground.phase }, { on := 8, ground := Ground.phase }], guard := none }) (by kernel_rfl) rfl (fun K hK => ?_)
          go_simp
          refine hK.out _ _ (fun h => by cases h) ?_
          clear hK K
          try simp only [Act.put, List.setIfInBounds_toArray, List.set_cons_zero, List.set_cons_succ]
          refine wpAnyT_done (by kernel_rfl) ?_ _
          go_wp2_with fail
          go_roundw
          case rel => exact ⟨k + 1, by omega, by simp, HN⟩
          case measure => simp [intOf]; omega
        · obtain rfl : k = n1 := by omega
          have kI : ¬ (k : Int) < (k : Int) := by omega
          obtain ⟨sv, hm⟩ := unhide HI
          rw [← unhide HGS] at hm
          have HF := hide hm
          clear hm HI
          go_wp2_with fail
          go_ret2
          exact ⟨gd, rfl, v, sv, unhide HF⟩
end Go.Proofs.Ythgacmlbmcehmaa
