/- For any entries and any number the Go function sealskinlaw15.AuditEntries returns true, and its arguments read as they did. No condition. -/
import Derived.Test.YtonkgiiacholeaaDoorARDg
import Derived.Test.YtonkgiiacholeaaDoorAOpn
namespace Go.Proofs.YtonkgiiacholeaaDoor.aentries
set_option linter.unusedVariables false
set_option linter.unusedSimpArgs false
open Go.ChangeShapes Go.WideShapes Go.ChangeAt Go.RowKit Go.Joins Go.Deep

theorem own_apart {w : World} {b1 b2 s1 s2 n1 n2 : Nat} {v1 v2 : Value} {x1 x2 : List Value} (h1 : w.ownsRow b1 22 s1 v1 n1 x1) (h2 : w.ownsRow b2 5 s2 v2 n2 x2) : ∀ k, v1.ownBlock = some k → v2.ownBlock ≠ some k := by
  intro k hk1 hk2
  rcases h1.2 with ⟨rfl, _⟩ | ⟨g, c, cur, rfl, _, e, _⟩
  · cases hk1
  rcases h2.2 with ⟨rfl, _⟩ | ⟨g', c', cur', rfl, _, e', _⟩
  · cases hk2
  obtain rfl : g = k := by simpa [Value.ownBlock] using hk1
  obtain rfl : g' = g := by simpa [Value.ownBlock] using hk2
  rw [e] at e'
  simp at e'
theorem LL.of_own' {w : World} {B : Nat} {v : Value} {P : List (Value × List Nat)} (ho : w.ownsRow B 22 1 v P.length (P.map (·.1))) (hY : ∀ x ∈ P, Byt w x.1 x.2) : LL w v P := by
  obtain ⟨_, ⟨he, hz⟩ | ⟨g, c, cur, he, hg, hh, h1, h2, h3, h4⟩⟩ := id ho
  · obtain rfl := List.length_eq_zero_iff.1 hz
    exact ⟨none, 0, he, ⟨Nat.le_refl _, Nat.zero_le _⟩, fun i u l hi => by simp at hi⟩
  · exact ⟨some ⟨g, 0, none⟩, c, he, ⟨h1, h2⟩, fun i u l hi => ⟨⟨_, rfl, ho.cells (g := g) (by rw [he]; rfl) i u (by rw [List.getElem?_map, hi]; rfl)⟩, hY _ (List.mem_of_getElem? hi)⟩⟩
theorem own_mono {w : World} {b b' s n : Nat} {e : TypeId} {v : Value} {xs : List Value} (h : w.ownsRow b e s v n xs) (hb : b' ≤ b) : w.ownsRow b' e s v n xs := by
  obtain ⟨h1, h2⟩ := h
  refine ⟨h1, ?_⟩
  rcases h2 with h2 | ⟨g, cap, cur, e1, e2, e3⟩
  · exact .inl h2
  · exact .inr ⟨g, cap, cur, e1, Nat.le_trans hb e2, e3⟩
theorem own_call {w w' : World} {b s n : Nat} {e : TypeId} {v : Value} {xs : List Value} (h : w.ownsRow b e s v n xs) (hb : Below w.heap.size w w') : w'.ownsRow b e s v n xs :=
  own_only h (Only.of_below (p := fun _ => False) hb) (fun _ _ h => h)
theorem wpList_append_slc {ops : Array Oper} {rest : List Oper} {o : Oper} {a : Act} {Q : Exit → Act → World → Prop} {W : World} (hgd : o.guard = none) (s x : Operand)
    (ho : o.op = .call { callee := .builtin .append, args := #[s, x], argTypes := #[35, 35] }) (B : Nat) (v : Value) (n : Nat) (V : List Value) (u : Value) (hu : u.oneCell' = true)
    (hs : a.eval s = v) (hv : W.ownsRow B 22 1 v n V) (hL : n ≤ 1000) (hB : B ≤ W.heap.size) (hx : a.eval x = .slice (some ⟨W.heap.size, 0, none⟩) 1 1)
    (h : ∀ v' w', w'.ownsRow B 22 1 v' (n + 1) (V ++ [u]) → Only (fun k => v.ownBlock = some k) W w' → wpList Tryd.prog ops Q rest (a.put o.dst v') w') : wpList Tryd.prog ops Q (o :: rest) a (W.alloc (.cells #[u] 22)) := by
  obtain ⟨i22, hi22, hz22, hs22, hb22⟩ := info_parts info22'
  have hzz : (Value.slice none 0 0).cells.size = 1 := by simp [Value.cells]
  have nw : ∀ k y, ([u] : List Value)[k]? = some y → (W.alloc (.cells #[u] 22)).cell? ((⟨W.heap.size, 0, none⟩ : Addr).add k) = some y := by
    intro k y hk
    rw [add_plain, Nat.zero_add, (RowAt.new W 22 [u]).cell]
    exact hk
  have hv1 : (W.alloc (.cells #[u] 22)).ownsRow B 22 1 v n V := World.ownsRow.alloc hv _
  refine wpList_append_lies _ hgd s x 35 ho B 22 i22 (.slice none 0 0) 1 24 Tryd.underlying35 hi22 hz22 hs22 hb22 hzz (by decide) v n V hs hv1 ⟨W.heap.size, 0, none⟩ 1 1 [u] hx rfl nw (fun y hy => by obtain rfl := List.mem_singleton.1 hy; exact hu) (by decide) (by unfold maxLen; omega) (by omega) (by rw [size_alloc]; omega) (W.heap.size + 1) (size_alloc _ _) ?_
  intro g cap w' own grow lies lt
  refine h _ w' own ?_
  have h1 : Only (fun k => v.ownBlock = some k) (W.alloc (.cells #[u] 22)) w' := grown_only grow
  exact (Only.of_below ((Below.refl _ _).alloc (Nat.le_refl _) _)).trans h1
/-- what is given: each entry's own copy -/
def Giv (w : World) (P : List (Value × List Nat)) (k : Nat) (gv : Value) (wr : World) : Prop :=
  ∃ V : List Value, wr.ownsRow w.heap.size 22 1 gv k V ∧ (∀ (j : Nat) v x, V[j]? = some v → P[j]? = some x → wr.ownsRow w.heap.size 5 1 v x.2.length (bv x.2)) ∧ Below w.heap.size w wr
theorem Giv.start (w : World) (P : List (Value × List Nat)) : Giv w P 0 (.slice none 0 0) w := ⟨[], World.ownsRow_nil w _ 22 1, fun j v x h => by simp at h, Below.refl _ _⟩
theorem Giv.next {w wr w1 w' : World} {P : List (Value × List Nat)} {k : Nat} {gv v gv' : Value} {V : List Value} {x : Value × List Nat} (hV : wr.ownsRow w.heap.size 22 1 gv k V) (hE : ∀ (j : Nat) v x, V[j]? = some v → P[j]? = some x → wr.ownsRow w.heap.size 5 1 v x.2.length (bv x.2)) (hb : Below w.heap.size w wr)
    (hx : P[k]? = some x) (b1 : Below wr.heap.size wr w1) (h1 : w1.ownsRow wr.heap.size 5 1 v x.2.length (bv x.2)) (h2 : w'.ownsRow w.heap.size 22 1 gv' (k + 1) (V ++ [v])) (o2 : Only (fun q => gv.ownBlock = some q) w1 w') : Giv w P (k + 1) gv' w' := by
  have hVl : V.length = k := by have := hV.1; omega
  have hV1 : w1.ownsRow w.heap.size 22 1 gv k V := own_call hV b1
  refine ⟨V ++ [v], h2, fun j v2 x2 hj hx2 => ?_, ?_⟩
  · by_cases e : j < k
    · rw [List.getElem?_append_left (by rw [hVl]; exact e)] at hj
      have h3 := own_call (hE j v2 x2 hj hx2) b1
      exact own_only h3 o2 (fun q hq hq2 => own_apart hV1 h3 q hq2 hq)
    · have hj' : j = k := by
        have := (List.getElem?_eq_some_iff.1 hj).1
        rw [List.length_append, List.length_singleton] at this
        omega
      subst hj'
      rw [List.getElem?_append_right (by omega), hVl, Nat.sub_self] at hj
      obtain rfl : v = v2 := by simpa using hj
      rw [hx] at hx2
      obtain rfl := Option.some.inj hx2
      have h3 : w1.ownsRow w.heap.size 5 1 v x.2.length (bv x.2) := own_mono h1 hb.size
      exact own_only h3 o2 (fun q hq hq2 => own_apart hV1 h3 q hq2 hq)
  · have hb1 : Below w.heap.size w w1 := bcall hb b1
    exact hb1.trans (o2.below hb1.size (fun q hq => (hV1.lt q hq).1))
/-- bytes that may be written over -/
def BB (w : World) (v : Value) (n : Nat) : Prop := n = 0 ∨ ∃ g cap cs, v = .slice (some ⟨g, 0, none⟩) n cap ∧ RowAt w g 5 cs ∧ n ≤ cs.length ∧ ∀ i, i < n → ∃ y : Nat, y < 256 ∧ cs[i]? = some (.int .u8 (y : Int))
theorem BB.of_own {w : World} {b : Nat} {v : Value} {l : List Nat} (h : w.ownsRow b 5 1 v l.length (bv l)) (h8 : U8 l) : BB w v l.length := by
  obtain ⟨h1, ⟨_, h0⟩ | ⟨g, c, cur, rfl, _, e, hc, _, hs, ht⟩⟩ := h
  · exact .inl h0
  · refine .inr ⟨g, c, cur.toList, rfl, e, (by have h9 : cur.toList.length = cur.size := Array.length_toList; show l.length ≤ cur.toList.length; omega), fun i hi => ?_⟩
    obtain ⟨y, hy⟩ : ∃ y, l[i]? = some y := ⟨_, List.getElem?_eq_getElem hi⟩
    refine ⟨y, h8 y (List.mem_of_getElem? hy), ?_⟩
    have h2 : (cur.toList.take (l.length * 1))[i]? = (bv l)[i]? := by rw [ht]
    rw [List.getElem?_take_of_lt (by omega)] at h2
    rw [h2]
    simp [bv, hy]
theorem BB.call {w w' : World} {v : Value} {n : Nat} (h : BB w v n) (hb : Below w.heap.size w w') : BB w' v n := by
  rcases h with h | ⟨g, cap, cs, h1, h2, h3⟩
  · exact .inl h
  · exact .inr ⟨g, cap, cs, h1, h2.below hb h2.lt, h3⟩
theorem BB.set {w : World} {v : Value} {n : Nat} (h : BB w v n) (g i : Nat) (z : Nat) (hz : z < 256) : BB (w.setCell ⟨g, i, none⟩ (.int .u8 (z : Int))) v n := by
  rcases h with h | ⟨g', cap, cs, h1, h2, h3, h4⟩
  · exact .inl h
  · by_cases e : g' = g
    · subst e
      refine .inr ⟨g', cap, cs.set i (.int .u8 (z : Int)), h1, h2.set i _, by rw [List.length_set]; exact h3, fun j hj => ?_⟩
      by_cases hij : i = j
      · subst hij
        exact ⟨z, hz, List.getElem?_set_self (by omega)⟩
      · rw [List.getElem?_set_ne hij]
        exact h4 j hj
    · exact .inr ⟨g', cap, cs, h1, h2.only ((Only.refl (· = g) w).set g i _ rfl) e, h3, h4⟩
/-- which blocks the copies lie in -/
def Cb (w w2 : World) (V : List Value) (q : Nat) : Prop := w.heap.size ≤ q ∧ q < w2.heap.size ∧ ∃ (j : Nat) (v : Value), V[j]? = some v ∧ v.ownBlock = some q
/-- while the copies are written over -/
def Ov (w w2 w3 : World) (P : List (Value × List Nat)) (V : List Value) (wr : World) : Prop := Only (Cb w w2 V) w3 wr ∧ ∀ (j : Nat) v x, V[j]? = some v → P[j]? = some x → BB wr v x.2.length
theorem Ov.set {w w2 w3 wr : World} {P : List (Value × List Nat)} {V : List Value} (h : Ov w w2 w3 P V wr) (g i z : Nat) (hz : z < 256) (hg : Cb w w2 V g) : Ov w w2 w3 P V (wr.setCell ⟨g, i, none⟩ (.int .u8 (z : Int))) :=
  ⟨h.1.set g i _ hg, fun j v x hj hx => (h.2 j v x hj hx).set g i z hz⟩
theorem Ov.drew {w w2 w3 wr : World} {P : List (Value × List Nat)} {V : List Value} (h : Ov w w2 w3 P V wr) : Ov w w2 w3 P V wr.drew := ⟨h.1.drew, fun j v x hj hx => (h.2 j v x hj hx).call ((Below.refl _ _).drew)⟩
set_option maxRecDepth 100000 in
set_option maxHeartbeats 8000000 in
theorem at_ok (g : Nat) (E : List (List Nat)) (τ : Nat → Int) (i : Nat) (l : List Nat) (w : World) (hL : LogAt w τ g E) (hE : E.length ≤ 1000) (hl : E[i]? = some l) (hll : l.length ≤ 1000000) :
    Calls Tryd.prog 29 #[.pointer (some ⟨g, 0, none⟩), .int .i64 (i : Int)] w fun e w' => ∃ v, e = .returned (.tuple #[v, .bool true]) ∧ w'.ownsRow w.heap.size 5 1 v l.length (bv l) ∧ Below w.heap.size w w' := by
  have hi : i < E.length := (List.getElem?_eq_some_iff.1 hl).1
  have HLN := hide (len_log g E τ w hL)
  obtain ⟨ev, hv, P, Q, h1, h2, h3⟩ := hL
  have hPl : P.length = E.length := by rw [← h2, List.length_map]
  obtain ⟨x, hx⟩ : ∃ x, P[i]? = some x := ⟨_, List.getElem?_eq_getElem (by omega)⟩
  have hxl : x.2 = l := by
    rw [← h2, List.getElem?_map, hx] at hl
    simpa using hl
  obtain ⟨hb, _, _⟩ := h1.eb x (List.mem_of_getElem? hx)
  have HCL := hide (clone_any x.1 x.2 w hb (by rw [hxl]; omega))
  rw [hxl] at HCL
  obtain ⟨ge, ce, rfl, hce⟩ := own_some h1.eo (by omega)
  have c1 : w.cell? ⟨g, 1, none⟩ = some (.slice (some ⟨ge, 0, none⟩) P.length ce) := h1.row.cell 1
  have c2 : w.cell? ⟨ge, i, none⟩ = some x.1 := by
    have := h1.eo.cellAt i (by omega)
    rw [this, List.getElem?_map, hx]; rfl
  obtain ⟨n, hn⟩ : ∃ n, E.length = n := ⟨_, rfl⟩
  rw [hPl, hn] at c1
  rw [hn] at HLN hi hE
  obtain ⟨ua, uc, hu⟩ := byt_shape hb
  rw [hu] at c2 HCL
  obtain ⟨un, hun⟩ : ∃ n, x.2.length = n := ⟨_, rfl⟩
  rw [hun] at c2 HCL
  have i0 : ¬ (i : Int) < 0 := by omega
  have i1 : ¬ (n : Int) ≤ (i : Int) := by omega
  have i2 : (i : Int) < (n : Int) := by omega
  have n1 : (n : Int) ≤ 1000 := by omega
  clear h1 h2 h3 hPl hx hxl hb hce hn hu hun hl hll
  go_enter Tryd.func29, Tryd.ntmps29
  go_wp2_with fail
  refine Calls.mono (unhide HLN) ?_
  rintro e w2 ⟨rfl, rfl⟩
  go_wp2_with fail
  refine Calls.mono (unhide HCL) ?_
  rintro e w3 ⟨v, rfl, own3, b3⟩
  have HF := hide (And.intro own3 b3)
  clear own3 b3
  go_wp2_with fail
  go_ret2
  exact ⟨_, rfl, (unhide HF).1, (unhide HF).2⟩
set_option maxRecDepth 100000 in
set_option maxHeartbeats 8000000 in
theorem at_bad (g : Nat) (E : List (List Nat)) (τ : Nat → Int) (i : Int) (w : World) (hL : LogAt w τ g E) (hE : E.length ≤ 1000) (hi : i < 0 ∨ (E.length : Int) ≤ i) :
    Calls Tryd.prog 29 #[.pointer (some ⟨g, 0, none⟩), .int .i64 i] w fun e w' => e = .returned (.tuple #[.slice none 0 0, .bool false]) ∧ w = w' := by
  have HLN := hide (len_log g E τ w hL)
  obtain ⟨n, hn⟩ : ∃ n, E.length = n := ⟨_, rfl⟩
  rw [hn] at HLN hi
  clear hL hE hn
  by_cases c1 : i < 0
  · clear hi
    go_enter Tryd.func29, Tryd.ntmps29
    go_wp2_with fail
    go_ret2
    exact ⟨rfl, rfl⟩
  · have c2 : (n : Int) ≤ i := by omega
    clear hi
    go_enter Tryd.func29, Tryd.ntmps29
    go_wp2_with fail
    refine Calls.mono (unhide HLN) ?_
    rintro e w2 ⟨rfl, rfl⟩
    go_wp2_with fail
    go_ret2
    exact ⟨rfl, rfl⟩
set_option maxRecDepth 100000 in
set_option maxHeartbeats 8000000 in
theorem walk (P : List (Value × List Nat)) (a : Option Addr) (n c : Nat) (i : Int) (w : World) (hT : Tabs w) (hn : P.length = n) (hL : LL w (.slice a n c) P) (h8 : ∀ x ∈ P, U8 x.2) :
    Calls Tryd.prog 5 #[.slice a n c, .int .i64 i] w fun e w' => e = .returned (.bool true) ∧ Below w.heap.size w w' := by
  have HSH := hide (short_any P a n c w hn hL)
  have HAW := hide (aawake_any w hT)
  have HT := hide hT
  have HL := hide hL
  have H8 := hide h8
  have HN := hide hn
  clear hT hL h8
  go_enter Tryd.func5, Tryd.ntmps5
  go_wp2_with fail
  refine Calls.mono (unhide HSH) ?_
  rintro e w1 ⟨b, rfl, rfl, hb⟩
  clear HSH
  cases b with
  | false =>
    clear hb
    go_wp2_with fail
    refine Calls.mono (unhide HAW) ?_
    rintro e w9 ⟨rfl, b9⟩
    have HF := hide b9
    clear b9
    go_wp2_with fail
    go_ret
    exact ⟨rfl, unhide HF⟩
  | true =>
    obtain ⟨n40, lens⟩ := hb rfl
    have n40I : (n : Int) ≤ 40 := by omega
    have HLN := hide lens
    clear hb lens
    go_wp2_with fail
    go_loopw [5, 20] (fun gv s wr => ∃ k : Nat, k ≤ n ∧ s = .int .i64 (k : Int) ∧ (∃ ga gc, gv = .slice ga k gc) ∧ Hid (Giv w P k gv wr)) (fun _ s _ => (n - intOf s).toNat)
    case atStart => exact ⟨0, by omega, by simp, ⟨_, _, rfl⟩, hide (Giv.start w P)⟩
    case round =>
      obtain ⟨k, hk, rfl, ⟨ga, gc, rfl⟩, HI⟩ := hrel
      by_cases hlt : k < n
      · obtain ⟨V, hV, hE, hb⟩ := unhide HI
        have hP := unhide HN
        obtain ⟨⟨u, l⟩, hul⟩ : ∃ x, P[k]? = some x := ⟨_, List.getElem?_eq_getElem (by omega)⟩
        obtain ⟨a', c', e5, _, hq⟩ := unhide HL
        obtain ⟨⟨ad, had, hcell⟩, hby⟩ := hq k u l hul
        obtain ⟨rfl, -, rfl⟩ : a = a' ∧ n = P.length ∧ c = c' := by simpa using e5
        subst had
        have hc1 : wr.cell? (ad.add k) = some u := (World.cell?_of_block (hb.block _ (World.block_lt_of_cell? _ _ hcell))).trans hcell
        obtain ⟨ua, uc, hu⟩ := byt_shape hby
        have HCL := hide (clone_any u l wr (hby.call hb) (by have := unhide HLN _ (List.mem_of_getElem? hul); simp only at this; omega))
        rw [hu] at hc1 HCL
        have HLL : Hid (l.length = l.length) := hide rfl
        have HST := hide (And.intro hV (And.intro hE (And.intro hb hul)))
        obtain ⟨ln, hln⟩ : ∃ q, l.length = q := ⟨_, rfl⟩
        have HLE := hide hln
        rw [hln] at hc1 HCL
        have kI : (k : Int) < (n : Int) := by omega
        clear hV hE hb hP hul e5 hq hcell hby hu hln HI
        go_wp2_with fail
        refine Calls.mono (unhide HCL) ?_
        rintro e w1 ⟨v', rfl, own1, b1⟩
        obtain ⟨sa, sc, hs, _⟩ := own_shape own1
        subst hs
        have HO1 := hide (And.intro own1 b1)
        obtain ⟨hV, hE, hb, hul⟩ := unhide HST
        have HV1 := hide (own_call hV b1)
        have HBS : Hid (w.heap.size ≤ w1.heap.size) := hide (Nat.le_trans hb.size b1.size)
        clear own1 b1 hV hE hb hul HCL
        go_wp2_with (refine wpList_append_slc rfl _ _ rfl w.heap.size (.slice ga k gc) k V (.slice sa ln sc) rfl rfl (unhide HV1) (by omega) (unhide HBS) rfl (fun v2 w2 hv2 ho2 => ?_); have HV2 := hide hv2; have HO2 := hide ho2; obtain ⟨g2, c2, hs2, _⟩ := own_shape hv2; subst hs2; clear hv2 ho2)
        go_roundw
        case rel =>
          obtain ⟨hV, hE, hb, hul⟩ := unhide HST
          obtain ⟨own1, b1⟩ := unhide HO1
          exact ⟨k + 1, by omega, by simp, ⟨_, _, rfl⟩, hide (Giv.next hV hE hb hul b1 (by simpa [unhide HLE] using own1) (unhide HV2) (unhide HO2))⟩
        case measure => simp [intOf]; omega
      · obtain rfl : k = n := by omega
        have kI : ¬ (k : Int) < (k : Int) := by omega
        obtain ⟨V, hV, hE, hb⟩ := unhide HI
        have hVl : V.length = k := by have := hV.1; omega
        have hPl := unhide HN
        obtain ⟨R, hR⟩ : ∃ R, V.zip (P.map (·.2)) = R := ⟨_, rfl⟩
        have hR1 : R.map (·.1) = V := by rw [← hR, List.map_fst_zip (by rw [List.length_map]; omega)]
        have hR2 : R.map (·.2) = P.map (·.2) := by rw [← hR, List.map_snd_zip (by rw [List.length_map]; omega)]
        have hRl : R.length = k := by rw [← hR, List.length_zip, List.length_map]; omega
        have hRx : ∀ x ∈ R, ∃ (j : Nat) (y : Value × List Nat), V[j]? = some x.1 ∧ P[j]? = some y ∧ y.2 = x.2 := by
          intro x hx
          obtain ⟨j, hj⟩ := List.getElem?_of_mem hx
          rw [← hR, List.getElem?_zip_eq_some, List.getElem?_map] at hj
          obtain ⟨j1, j2⟩ := hj
          obtain ⟨y, hy, hy2⟩ := Option.map_eq_some_iff.1 j2
          exact ⟨j, y, j1, hy, hy2⟩
        have hLL : LL wr (.slice ga k gc) R := by
          refine LL.of_own' (B := w.heap.size) (by rw [hRl, hR1]; exact hV) (fun x hx => ?_)
          obtain ⟨j, y, j1, j2, j3⟩ := hRx x hx
          have := hE j x.1 y j1 j2
          rw [j3] at this
          exact Byt.of_own this
        have HMD := hide (made_log R _ wr ((unhide HT).below hb) hLL (fun x hx => by
          obtain ⟨j, y, j1, j2, j3⟩ := hRx x hx
          rw [← j3]; exact unhide H8 y (List.mem_of_getElem? j2)) (fun x hx => by
          obtain ⟨j, y, j1, j2, j3⟩ := hRx x hx
          rw [← j3]; exact Nat.le_trans (unhide HLN y (List.mem_of_getElem? j2)) (by decide)) (by omega))
        rw [hR2] at HMD
        have HG := hide (And.intro hV (And.intro hE (And.intro hb hVl)))
        clear hV hE hb hVl hPl hR hR1 hR2 hRl hRx hLL HI hlt hk
        generalize wr = w2 at *
        go_wp2_with fail
        refine Calls.mono (unhide HMD) ?_
        rintro e w3 ⟨rfl, τ, L3, ht3, b3⟩
        have HL3 := hide (And.intro L3 (And.intro ht3 b3))
        obtain ⟨E, hEE⟩ : ∃ E, P.map (·.2) = E := ⟨_, rfl⟩
        have HEE := hide hEE
        have HEL : Hid (E.length = k) := hide (by rw [← hEE, List.length_map]; exact unhide HN)
        have HTK : Hid (E.take k = E) := hide (List.take_of_length_le (by have := unhide HEL; omega))
        have HOV : Hid (Ov w w2 w3 P V w3) := hide (by
          obtain ⟨hV, hE, hb, hVl⟩ := unhide HG
          refine ⟨Only.refl _ _, fun j v x hj hx => ?_⟩
          exact BB.call (BB.of_own (hE j v x hj hx) (unhide H8 x (List.mem_of_getElem? hx))) b3)
        clear L3 ht3 b3 hEE HMD
        go_wp2_with fail
        go_loopw [34] (fun s wr => ∃ q : Nat, q ≤ k ∧ s = .int .i64 (q : Int) ∧ Hid (Ov w w2 w3 P V wr)) (fun s _ => (k - intOf s).toNat)
        case atStart => exact ⟨0, by omega, by simp, HOV⟩
        case round =>
          obtain ⟨q, hq, rfl, HI⟩ := hrel
          by_cases hlt : q < k
          · have qI : (q : Int) < (k : Int) := by omega
            obtain ⟨hV, hE, hb, hVl⟩ := unhide HG
            obtain ⟨L3, ht3, b3⟩ := unhide HL3
            obtain ⟨hO, hB⟩ := unhide HI
            obtain ⟨v, hv⟩ : ∃ v, V[q]? = some v := ⟨_, List.getElem?_eq_getElem (by omega)⟩
            obtain ⟨x, hx⟩ : ∃ x, P[q]? = some x := ⟨_, List.getElem?_eq_getElem (by have := unhide HN; omega)⟩
            have hvo := hE q v x hv hx
            obtain ⟨va, vc, hvs, _⟩ := own_shape hvo
            have hV3 : wr.ownsRow w.heap.size 22 1 (.slice ga k gc) k V := own_only (own_call hV b3) hO (fun r hr hcb => by
              obtain ⟨_, _, j, v2, hj, hr2⟩ := hcb
              obtain ⟨x2, hx2⟩ : ∃ x, P[j]? = some x := ⟨_, List.getElem?_eq_getElem (by have := (List.getElem?_eq_some_iff.1 hj).1; have := unhide HN; omega)⟩
              exact own_apart hV (hE j v2 x2 hj hx2) r hr hr2)
            obtain ⟨gg, gc', hgs, _⟩ := own_some hV3 (by omega)
            obtain ⟨rfl, rfl⟩ : ga = some ⟨gg, 0, none⟩ ∧ gc = gc' := by simpa using hgs
            have cg : wr.cell? ⟨gg, q, none⟩ = some v := by
              have := hV3.cellAt q (by omega)
              rw [this]; exact hv
            have HCB : Hid (∀ r, v.ownBlock = some r → Cb w w2 V r) := hide (fun r hr => ⟨(hvo.lt r hr).1, (hvo.lt r hr).2, q, v, hv, hr⟩)
            have HVX := hide (And.intro hv hx)
            subst hvs
            obtain ⟨ln, hln⟩ : ∃ m, x.2.length = m := ⟨_, rfl⟩
            have HLE := hide hln
            have lnI : (ln : Int) ≤ 4096 := by
              have := unhide HLN x (List.mem_of_getElem? hx)
              omega
            rw [hln] at cg HCB HVX
            clear hV hE hb hVl L3 ht3 b3 hO hB hv hx hvo hV3 hgs hln
            go_wp2_with fail
            go_loopw [40] (fun s wr => ∃ r : Nat, r ≤ ln ∧ s = .int .i64 (r : Int) ∧ Hid (Ov w w2 w3 P V wr)) (fun s _ => (ln - intOf s).toNat)
            case atStart => exact ⟨0, by omega, by simp, HI⟩
            case round =>
              obtain ⟨r, hr, rfl, HJ⟩ := hrel
              by_cases hrl : r < ln
              · have rI : (r : Int) < (ln : Int) := by omega
                obtain ⟨hv, hx⟩ := unhide HVX
                have hbb := (unhide HJ).2 q _ x hv hx
                rw [unhide HLE] at hbb
                rcases hbb with hbb | ⟨gd, cd, cs, hsl, hrow, hcl, hcs⟩
                · omega
                obtain ⟨rfl, rfl⟩ : va = some ⟨gd, 0, none⟩ ∧ vc = cd := by simpa using hsl
                obtain ⟨y, hy, hyc⟩ := hcs r hrl
                have ccell : wr.cell? ⟨gd, r, none⟩ = some (.int .u8 (y : Int)) := by rw [hrow.cell]; exact hyc
                have cfr : wr.frozen? ⟨gd, r, none⟩ = false := hrow.frozen r
                obtain ⟨z, hz⟩ : ∃ z, y ^^^ 255 = z := ⟨_, rfl⟩
                have hz8 : z < 256 := by rw [← hz]; exact Nat.xor_lt_two_pow (n := 8) hy (by decide)
                have hxr : bits .xor .u8 (y : Int) 255 = (z : Int) := by have h := u8_xor_nat y 255 hy (by decide); rw [hz] at h; exact h
                have HO2 := hide ((unhide HJ).set gd r z hz8 (unhide HCB gd rfl))
                clear hv hx hsl hrow hcl hcs hyc hz HJ
                go_wp2_with fail
                go_roundw
                case rel => exact ⟨r + 1, by omega, by simp, HO2⟩
                case measure => simp [intOf]; omega
              · obtain rfl : r = ln := by omega
                have rI : ¬ (r : Int) < (r : Int) := by omega
                go_wp2_with fail
                go_roundw
                case rel => exact ⟨q + 1, by omega, by simp, HJ⟩
                case measure => simp [intOf]; omega
          · obtain rfl : q = k := by omega
            have qI : ¬ (q : Int) < (q : Int) := by omega
            obtain ⟨hV, hE, hb, hVl⟩ := unhide HG
            obtain ⟨L3, ht3, b3⟩ := unhide HL3
            obtain ⟨hO, hB⟩ := unhide HI
            rw [unhide HEE] at L3
            have HL4 := hide (L3.only (hO.mono (fun r hr => ht3 r hr.2.1)))
            have HB4 : Hid (Below w.heap.size w wr) := hide ((bcall hb b3).trans (hO.below (bcall hb b3).size (fun r hr => hr.1)))
            have dl := digL_len E
            have hqe := eq_sums _ _ dl dl
            rw [decide_eq_true rfl] at hqe
            obtain ⟨X, hX⟩ : ∃ X, (bv (digL E)).toArray = X := ⟨_, rfl⟩
            rw [hX] at hqe
            have HX := hide hX
            clear hV hE hb hVl L3 ht3 b3 hO hB dl hX HI HG HL3 HOV hlt hq
            generalize wr = w4 at *
            obtain ⟨n, hn'⟩ : ∃ n, n = q := ⟨_, rfl⟩
            subst hn'
            by_cases c1 : i < 0
            · have c2 : ¬ (0 : Int) ≤ i := by omega
              have HAT := hide (at_bad w2.heap.size E τ i w4 (unhide HL4) (by have := unhide HEL; omega) (by omega))
              go_wp2_with fail
              refine Calls.mono (unhide HAT) ?_
              rintro e w5 ⟨rfl, rfl⟩
              have k5 : Below w4.heap.size w4 w4 := Below.refl _ _
              have KLE := hide (len_log w2.heap.size E τ w4 ((unhide HL4).call k5))
              rw [unhide HEL] at KLE
              have KRT := hide (root_ok w2.heap.size E τ n w4 ((unhide HT).below (bcall (unhide HB4) k5)) ((unhide HL4).call k5) (by have := unhide HEL; omega) (by have := unhide HEL; omega))
              rw [unhide HTK, unhide HX] at KRT
              have KDG := hide (p := ∀ W, Below w4.heap.size w4 W → _) (fun W hW => rdig_any n a c P W (unhide HN) ((unhide HL).call (bcall (bcall (unhide HB4) k5) hW)) (unhide H8) (fun x hx => Nat.le_trans (unhide HLN x hx) (by decide)) (by omega))
              rw [unhide HEE, unhide HX] at KDG
              have KAW := hide (p := ∀ W, Below w4.heap.size w4 W → _) (fun W hW => aawake_any W ((unhide HT).below (bcall (bcall (unhide HB4) k5) hW)))
              go_wp2_with fail
              refine Calls.mono (unhide KLE) ?_
              rintro e wx ⟨rfl, rfl⟩
              go_wp2_with fail
              refine Calls.mono (unhide KRT) ?_
              rintro e w6 ⟨rfl, b6⟩
              have KD6 := hide (unhide KDG _ b6)
              go_wp2_with fail
              refine Calls.mono (unhide KD6) ?_
              rintro e w7 ⟨rfl, b7⟩
              have k7 := bcall b6 b7
              have KA7 := hide (unhide KAW _ k7)
              go_wp2_with fail
              refine Calls.mono (unhide KA7) ?_
              rintro e w8 ⟨rfl, b8⟩
              have HF := hide (bcall (bcall (unhide HB4) k5) (bcall k7 b8))
              clear b8 b6 b7 k7
              go_wp2_with fail
              go_ret
              exact ⟨rfl, unhide HF⟩
            by_cases c3 : (n : Int) ≤ i
            · have c2 : (0 : Int) ≤ i := by omega
              have c4 : ¬ i < (n : Int) := by omega
              have HAT := hide (at_bad w2.heap.size E τ i w4 (unhide HL4) (by have := unhide HEL; omega) (by have := unhide HEL; omega))
              go_wp2_with fail
              refine Calls.mono (unhide HAT) ?_
              rintro e w5 ⟨rfl, rfl⟩
              have k5 : Below w4.heap.size w4 w4 := Below.refl _ _
              have KLE := hide (len_log w2.heap.size E τ w4 ((unhide HL4).call k5))
              rw [unhide HEL] at KLE
              have KRT := hide (root_ok w2.heap.size E τ n w4 ((unhide HT).below (bcall (unhide HB4) k5)) ((unhide HL4).call k5) (by have := unhide HEL; omega) (by have := unhide HEL; omega))
              rw [unhide HTK, unhide HX] at KRT
              have KDG := hide (p := ∀ W, Below w4.heap.size w4 W → _) (fun W hW => rdig_any n a c P W (unhide HN) ((unhide HL).call (bcall (bcall (unhide HB4) k5) hW)) (unhide H8) (fun x hx => Nat.le_trans (unhide HLN x hx) (by decide)) (by omega))
              rw [unhide HEE, unhide HX] at KDG
              have KAW := hide (p := ∀ W, Below w4.heap.size w4 W → _) (fun W hW => aawake_any W ((unhide HT).below (bcall (bcall (unhide HB4) k5) hW)))
              go_wp2_with fail
              refine Calls.mono (unhide KLE) ?_
              rintro e wx ⟨rfl, rfl⟩
              go_wp2_with fail
              refine Calls.mono (unhide KRT) ?_
              rintro e w6 ⟨rfl, b6⟩
              have KD6 := hide (unhide KDG _ b6)
              go_wp2_with fail
              refine Calls.mono (unhide KD6) ?_
              rintro e w7 ⟨rfl, b7⟩
              have k7 := bcall b6 b7
              have KA7 := hide (unhide KAW _ k7)
              go_wp2_with fail
              refine Calls.mono (unhide KA7) ?_
              rintro e w8 ⟨rfl, b8⟩
              have HF := hide (bcall (bcall (unhide HB4) k5) (bcall k7 b8))
              clear b8 b6 b7 k7
              go_wp2_with fail
              go_ret
              exact ⟨rfl, unhide HF⟩
            obtain ⟨i', rfl⟩ := Int.eq_ofNat_of_zero_le (show 0 ≤ i by omega)
            have c2 : (0 : Int) ≤ (i' : Int) := by omega
            have c4 : (i' : Int) < (n : Int) := by omega
            have c5 : i' < n := by omega
            obtain ⟨⟨u, l⟩, hul⟩ : ∃ x, P[i']? = some x := ⟨_, List.getElem?_eq_getElem (by have := unhide HN; omega)⟩
            have hmem := List.mem_of_getElem? hul
            obtain ⟨a', c', e5, _, hq⟩ := unhide HL
            obtain ⟨⟨ad, had, hcell⟩, hby⟩ := hq i' u l hul
            obtain ⟨rfl, -, rfl⟩ : a = a' ∧ n = P.length ∧ c = c' := by simpa using e5
            subst had
            obtain ⟨ua, uc, hu⟩ := byt_shape hby
            subst hu
            obtain ⟨un, hun⟩ : ∃ q, l.length = q := ⟨_, rfl⟩
            have HLU := hide hun
            have hEi : E[i']? = some l := by rw [← unhide HEE, List.getElem?_map, hul]; rfl
            have HAT := hide (at_ok w2.heap.size E τ i' l w4 (unhide HL4) (by have := unhide HEL; omega) hEi (by have := unhide HLN _ hmem; simp only at this; omega))
            have HBY := hide hby
            have HL8 : Hid (U8 l) := hide (unhide H8 _ hmem)
            rw [hun] at hcell
            have HCU := hide hcell
            clear hul hmem e5 hq hcell hby hun hEi
            go_wp2_with fail
            refine Calls.mono (unhide HAT) ?_
            rintro e w5 ⟨dv, rfl, own5, b5⟩
            have k5 := bcall (Below.refl w4.heap.size w4) b5
            have HEQ := hide (equal_same _ _ l w5 (Byt.of_own own5) ((unhide HBY).call (bcall (unhide HB4) b5)) (unhide HL8))
            obtain ⟨da, dc, hdv, _⟩ := own_shape own5
            subst hdv
            have hcx : w5.cell? (ad.add i') = some (.slice ua un uc) := (World.cell?_of_block ((bcall (unhide HB4) b5).block _ (World.block_lt_of_cell? _ _ (unhide HCU)))).trans (unhide HCU)
            rw [unhide HLU] at HEQ ⊢
            have KLE := hide (len_log w2.heap.size E τ w5 ((unhide HL4).call k5))
            rw [unhide HEL] at KLE
            have KRT := hide (root_ok w2.heap.size E τ n w5 ((unhide HT).below (bcall (unhide HB4) k5)) ((unhide HL4).call k5) (by have := unhide HEL; omega) (by have := unhide HEL; omega))
            rw [unhide HTK, unhide HX] at KRT
            have KDG := hide (p := ∀ W, Below w5.heap.size w5 W → _) (fun W hW => rdig_any n (some ad) c P W (unhide HN) ((unhide HL).call (bcall (bcall (unhide HB4) k5) hW)) (unhide H8) (fun x hx => Nat.le_trans (unhide HLN x hx) (by decide)) (by omega))
            rw [unhide HEE, unhide HX] at KDG
            have KAW := hide (p := ∀ W, Below w5.heap.size w5 W → _) (fun W hW => aawake_any W ((unhide HT).below (bcall (bcall (unhide HB4) k5) hW)))
            clear own5 b5
            go_wp2_with fail
            refine Calls.mono (unhide HEQ) ?_
            rintro e wx ⟨rfl, rfl⟩
            go_wp2_with fail
            refine Calls.mono (unhide KLE) ?_
            rintro e wx ⟨rfl, rfl⟩
            go_wp2_with fail
            refine Calls.mono (unhide KRT) ?_
            rintro e w6 ⟨rfl, b6⟩
            have KD6 := hide (unhide KDG _ b6)
            go_wp2_with fail
            refine Calls.mono (unhide KD6) ?_
            rintro e w7 ⟨rfl, b7⟩
            have k7 := bcall b6 b7
            have KA7 := hide (unhide KAW _ k7)
            go_wp2_with fail
            refine Calls.mono (unhide KA7) ?_
            rintro e w8 ⟨rfl, b8⟩
            have HF := hide (bcall (bcall (unhide HB4) k5) (bcall k7 b8))
            clear b8 b6 b7 k7
            go_wp2_with fail
            go_ret
            exact ⟨rfl, unhide HF⟩

set_option maxRecDepth 100000 in
theorem contract (H : Type) (enc : TypeId × Value → H) (W : World) (base : Nat) (args : Array Value) (ds gs : List (DataW H)) (before : List MemPlace)
    (hval : ∀ (j : Nat) t v, Tryd.f5.params[j]? = some t → args[j]? = some v → Value.okWide Tryd.prog W .any base t v)
    (hW : DataW.Whole enc Tryd.prog Tryd.f5.params.toList Rows.auditEntriesSpec.vars false W args.toList ds gs before) (hL : laidMetH Tryd.prog Rows.auditEntriesRow.laid W) :
    Calls Tryd.prog 5 args W fun e W' => ∃ v, e = .returned v ∧ Rows.auditEntriesSpec.post enc Tryd.prog Tryd.f5 false true false false W args v W' := by
  have hT : Tabs W := tabs_of hL
  have hW' := hW
  obtain ⟨p, q, hA0, hV, rfl, hfz, hnd⟩ := hW
  have hA : DataW.TrodAll enc Tryd.prog W 0 (fun _ => true) true Tryd.f5.params.toList args.toList ds p := hA0
  rw [Tryd.params5] at hA hval
  obtain ⟨v0, vs0, d0, ds0, p0, q0, hargs, rfl, rfl, h0, r0⟩ := trodAll_cons hA
  obtain ⟨v1, vs1, d1, ds1, p1, q1, rfl, rfl, rfl, h1, r1⟩ := trodAll_cons r0
  obtain ⟨rfl, rfl, rfl⟩ := trodAll_nil r1
  obtain rfl : args = #[v0, v1] := by cases args; simp_all
  obtain ⟨rfl, rfl⟩ := trodVars_none hV
  have lt0 : ∀ x ∈ p0, x.block < W.heap.size := by obtain ⟨m, hm⟩ := h0; exact DataW.trod_lt m _ _ _ hm
  have lt1 : ∀ x ∈ p1, x.block < W.heap.size := by obtain ⟨m, hm⟩ := h1; exact DataW.trod_lt m _ _ _ hm
  obtain ⟨P, hP, hP8, hPd⟩ := open_lists (hval 0 35 v0 rfl rfl) h0
  obtain ⟨la, lc, hv, _⟩ := id hP
  subst hv
  obtain ⟨n2, rfl⟩ := open_i64 (hval 1 3 v1 rfl rfl) h1
  clear hA0
  refine (walk P la P.length lc n2 W hT rfl hP hP8).mono fun e W' ⟨he, bel⟩ => ?_
  subst he
  exact ⟨_, rfl, _, _, _, [], _, [], hW', trodAll_mk1 (shut_bool Tryd.underlying4 _), (trodAll_cons_mk (Below.trod laidOut (by kernel_rfl) (of_decide_eq_true (by kernel_rfl)) h0 bel lt0) (trodAll_cons_mk (Below.trod laidOut (by kernel_rfl) (of_decide_eq_true (by kernel_rfl)) h1 bel lt1) trodAll_mk0)), rfl, bel.frame _, fun h => by cases h⟩

set_option maxRecDepth 100000 in
theorem laid_here (os : Os) : laidMet Tryd.prog Rows.auditEntriesRow.laid ((laidWorld os).forCall (fun _ _ => 0) ⟨#[], #[.slice none 0 0, .int .i64 0], []⟩).memory :=
  laidMet_of_run' 8 (by kernel_rfl) (by kernel_rfl)
theorem reads (os : Os) {H : Type} (enc : TypeId × Value → H) : ∃ places, DataW.whole enc Tryd.prog ((laidWorld os).forCall (fun _ _ => 0) ⟨#[], #[.slice none 0 0, .int .i64 0], []⟩).memory Tryd.f5.params.toList Rows.auditEntriesSpec.vars false (#[.slice none 0 0, .int .i64 0] : Array Value).toList 8 = some ([.nil, .lit (.int .i64 0)], [], places) :=
  ⟨[], by kernel_rfl⟩

set_option maxRecDepth 100000 in
theorem lifted (os : Os) (started : os.Started) (H : Type) (enc : TypeId × Value → H) (F : Stop.Interp) :
    ReturnsInHanded {} Tryd.checked os 5 .any ((OpenSpec.ofChange Rows.auditEntriesSpec).preRow enc Tryd.prog Tryd.f5 Rows.auditEntriesRow.domain false Rows.auditEntriesRow.laid) (((OpenSpec.ofChange Rows.auditEntriesSpec).at F).post enc Tryd.prog Tryd.f5 false true false false) := by
  obtain ⟨places, hx⟩ := reads os enc
  refine returnsInHanded_of_row (C := Tryd.checked) (s := OpenSpec.ofChange Rows.auditEntriesSpec) own started (by kernel_rfl) Tryd.func5
    (witness_row_at (enc := enc) (C := Tryd.checked) false (laidWorld os) #[.slice none 0 0, .int .i64 0] rfl (by kernel_rfl) (by kernel_rfl) (by kernel_rfl)
      (OpenSpec.preRow_of_cond 8 hx (by kernel_rfl) (fun k hk => by cases hk) (by kernel_rfl) (laid_here os))) ?_
  intro W base args ds gs before hval hW _ _ _ hL _ _
  exact contract H enc W base args ds gs before hval hW hL

set_option maxRecDepth 100000 in
theorem said : Rows.AuditEntriesSaid :=
  OpenClaim.holds_of_cond 5 Tryd.f5 rfl rfl rfl rfl rfl rfl rfl ⟨rfl, rfl, rfl, rfl, rfl⟩ rfl rfl rfl rfl rfl (by kernel_rfl) Tryd.func5 (by kernel_rfl)
    (of_decide_eq_true (by kernel_rfl)) (by unfold Func.isWrapper; first | (rw [if_pos (by decide +kernel)]; kernel_rfl) | (rw [if_neg (by decide +kernel)]; exact ⟨rfl, rfl⟩))
    (fun os started H enc _ F => by rw [OpenClaim.pre_eq_preRow]; exact lifted os started H enc F)

set_option maxRecDepth 100000 in
theorem plain (f : FuncId) (fn : Func) (hf : Tryd.pinned.checked.prog.funcNamed "sealskin/sealskinlaw15.AuditEntries" = some f) (hfn : Tryd.pinned.checked.prog.funcs[f]? = some fn) :
    false = Tryd.pinned.checked.prog.looks [] ∧ ∀ (j : Nat) t, fn.params[j]? = some t → Tryd.pinned.checked.prog.wantsStandIn t = false := by
  obtain rfl : f = 5 := Option.some.inj ((show Tryd.prog.funcNamed "sealskin/sealskinlaw15.AuditEntries" = some 5 by kernel_rfl).symm.trans hf) |>.symm
  obtain rfl : fn = Tryd.f5 := (Option.some.inj (Tryd.func5.symm.trans hfn)).symm
  refine ⟨by kernel_rfl, fun j t ht => ?_⟩
  rw [Tryd.params5] at ht
  have := Array.mem_of_getElem? ht
  simp at this
  rcases this with rfl | rfl
  · exact (show Tryd.prog.wantsStandIn 35 = false by kernel_rfl)
  · exact (show Tryd.prog.wantsStandIn 3 = false by kernel_rfl)

theorem proved : Rows.AuditEntriesCardSaid :=
  Claim7.holds_tied_plain_at .later [] _ _ _ _ said (fun _ h => by cases h) (by kernel_rfl) (fun _ h => by cases h) auditEntries_row_tie rfl ⟨rfl, rfl⟩ (by kernel_rfl) rfl plain (by kernel_rfl)
#print axioms proved
end Go.Proofs.YtonkgiiacholeaaDoor.aentries
