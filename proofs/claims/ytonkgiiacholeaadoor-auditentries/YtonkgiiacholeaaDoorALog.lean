/- A log in memory: its entries, its heights, and whose each block is. -/
import Derived.Test.YtonkgiiacholeaaDoorAHalf
import Derived.Test.YtonkgiiacholeaaDoorNew
import Derived.Laws.OwnMore
namespace Go.Proofs.YtonkgiiacholeaaDoor
set_option linter.unusedVariables false
set_option linter.unusedSimpArgs false
open Go.ChangeShapes Go.WideShapes Go.ChangeAt Go.RowKit Go.Joins

theorem own_only {p : Nat → Prop} {w w' : World} {b s n : Nat} {e : TypeId} {v : Value} {xs : List Value} (h : w.ownsRow b e s v n xs) (ho : Only p w w') (hp : ∀ k, v.ownBlock = some k → ¬ p k) : w'.ownsRow b e s v n xs := by
  obtain ⟨h1, h2⟩ := h
  refine ⟨h1, ?_⟩
  rcases h2 with h2 | ⟨g, cap, cur, e1, e2, e3, e4⟩
  · exact .inl h2
  · have hlt : g < w.heap.size := (Array.getElem?_eq_some_iff.1 e3).1
    exact .inr ⟨g, cap, cur, e1, e2, (ho.block g hlt (hp g (by rw [e1]; rfl))).trans e3, e4⟩
theorem own_block_lt {w : World} {b s n : Nat} {e : TypeId} {v : Value} {xs : List Value} (h : w.ownsRow b e s v n xs) : ∀ k, v.ownBlock = some k → k < w.heap.size := fun k hk => (h.lt k hk).2

structure Lg (w : World) (τ : Nat → Int) (g : Nat) (ev hv : Value) (P : List (Value × List Nat)) (Q : List (Value × List (List Nat))) : Prop where
  row : RowAt w g 69 [.bool true, ev, hv]
  tg : τ g = 0
  eo : w.ownsRow 0 22 1 ev P.length (P.map (·.1))
  te : ∀ k, ev.ownBlock = some k → τ k = 1
  ho : w.ownsRow 0 121 1 hv Q.length (Q.map (·.1))
  th : ∀ k, hv.ownBlock = some k → τ k = 2
  qo : ∀ (i : Nat) x, Q[i]? = some x → w.ownsRow 0 43 32 x.1 x.2.length (bv x.2.flatten) ∧ ∀ k, x.1.ownBlock = some k → τ k = 4 + i
  ql : ∀ (i : Nat) x, Q[i]? = some x → ∀ s ∈ x.2, s.length = 32 ∧ U8 s
  eb : ∀ x ∈ P, Byt w x.1 x.2 ∧ U8 x.2 ∧ (x.2 ≠ [] → ∀ k, x.1.ownBlock = some k → τ k = 3)

theorem byt_block {w : World} {v : Value} {l : List Nat} (h : Byt w v l) (hl : l ≠ []) : ∀ k, v.ownBlock = some k → k < w.heap.size := by
  intro k hk
  rcases h with ⟨_, rfl⟩ | ⟨a, cap, rfl, _, _, h3⟩
  · exact absurd rfl hl
  · cases l with
    | nil => exact absurd rfl hl
    | cons y l =>
      have := World.block_lt_of_cell? w _ (h3 0 y rfl)
      rw [add_block] at this
      simp only [Value.ownBlock, Option.some.injEq] at hk
      omega
theorem Lg.only {w w' : World} {τ : Nat → Int} {g : Nat} {ev hv : Value} {P : List (Value × List Nat)} {Q : List (Value × List (List Nat))} (h : Lg w τ g ev hv P Q) (ho : Only (fun k => τ k = -1) w w') : Lg w' τ g ev hv P Q where
  row := h.row.only ho (by rw [h.tg]; decide)
  tg := h.tg
  eo := own_only h.eo ho (fun k hk => by rw [h.te k hk]; decide)
  te := h.te
  ho := own_only h.ho ho (fun k hk => by rw [h.th k hk]; decide)
  th := h.th
  qo := fun i x hx => ⟨own_only (h.qo i x hx).1 ho (fun k hk => by rw [(h.qo i x hx).2 k hk]; omega), (h.qo i x hx).2⟩
  ql := h.ql
  eb := fun x hx => ⟨ho.byt' (h.eb x hx).1 (fun hl k hk => by show ¬ τ k = -1; rw [(h.eb x hx).2.2 hl k hk]; decide), (h.eb x hx).2⟩
theorem Lg.call {w w' : World} {τ : Nat → Int} {g : Nat} {ev hv : Value} {P : List (Value × List Nat)} {Q : List (Value × List (List Nat))} (h : Lg w τ g ev hv P Q) (hb : Below w.heap.size w w') : Lg w' τ g ev hv P Q := h.only (Only.of_below hb)
theorem Lg.retag {w : World} {τ τ' : Nat → Int} {g : Nat} {ev hv : Value} {P : List (Value × List Nat)} {Q : List (Value × List (List Nat))} (h : Lg w τ g ev hv P Q) (ht : ∀ k, k < w.heap.size → τ' k = τ k) : Lg w τ' g ev hv P Q where
  row := h.row
  tg := by rw [ht g h.row.lt]; exact h.tg
  eo := h.eo
  te := fun k hk => by rw [ht k (own_block_lt h.eo k hk)]; exact h.te k hk
  ho := h.ho
  th := fun k hk => by rw [ht k (own_block_lt h.ho k hk)]; exact h.th k hk
  qo := fun i x hx => ⟨(h.qo i x hx).1, fun k hk => by rw [ht k (own_block_lt (h.qo i x hx).1 k hk)]; exact (h.qo i x hx).2 k hk⟩
  ql := h.ql
  eb := fun x hx => ⟨(h.eb x hx).1, (h.eb x hx).2.1, fun hl k hk => by rw [ht k (byt_block (h.eb x hx).1 hl k hk)]; exact (h.eb x hx).2.2 hl k hk⟩

/-- one entry more -/
theorem Lg.addE {w w2 : World} {τ : Nat → Int} {g : Nat} {ev hv ev' cv : Value} {P : List (Value × List Nat)} {Q : List (Value × List (List Nat))} {d : List Nat} (h : Lg w τ g ev hv P Q)
    (hb : Only (fun k => ev.ownBlock = some k) w w2) (ho : w2.ownsRow 0 22 1 ev' (P.length + 1) (P.map (·.1) ++ [cv])) (hat : ∀ k, ev'.ownBlock = some k → ev.ownBlock = some k ∨ w.heap.size ≤ k)
    (hc : Byt w2 cv d) (h8 : U8 d) (hcn : d ≠ [] → ∀ k, cv.ownBlock = some k → w.heap.size ≤ k ∧ ev'.ownBlock ≠ some k) :
    ∃ τ' : Nat → Int, (∀ k, k < w.heap.size → τ' k = τ k) ∧ Lg (w2.setCell ⟨g, 1, none⟩ ev') τ' g ev' hv (P ++ [(cv, d)]) Q := by
  have hg0 := h.tg
  have hgl := h.row.lt
  have heg : ∀ k, ev.ownBlock = some k → k ≠ g := fun k hk e => by have := h.te k hk; rw [e, hg0] at this; omega
  have hhg : ∀ k, hv.ownBlock = some k → k ≠ g := fun k hk e => by have := h.th k hk; rw [e, hg0] at this; omega
  have hhe : ∀ k, hv.ownBlock = some k → ev.ownBlock ≠ some k := fun k hk e => by have := h.th k hk; rw [h.te k e] at this; omega
  have he'g : ∀ k, ev'.ownBlock = some k → k ≠ g := fun k hk e => by
    rcases hat k hk with h1 | h1
    · exact heg k h1 e
    · omega
  have hq : ∀ (i : Nat) x, Q[i]? = some x → ∀ k, x.1.ownBlock = some k → k ≠ g ∧ ev.ownBlock ≠ some k := fun i x hx k hk => by
    have := (h.qo i x hx).2 k hk
    refine ⟨fun e => by rw [e, hg0] at this; omega, fun e => by rw [h.te k e] at this; omega⟩
  have hx : ∀ x ∈ P, x.2 ≠ [] → ∀ k, x.1.ownBlock = some k → k ≠ g ∧ ev.ownBlock ≠ some k := fun x hx hl k hk => by
    have := (h.eb x hx).2.2 hl k hk
    refine ⟨fun e => by rw [e, hg0] at this; omega, fun e => by rw [h.te k e] at this; omega⟩
  have o2 : Only (fun k => k = g) w2 (w2.setCell ⟨g, 1, none⟩ ev') := (Only.refl _ _).set g 1 ev' rfl
  let τ' : Nat → Int := fun k => if k < w.heap.size then τ k else if ev'.ownBlock = some k then 1 else if cv.ownBlock = some k then 3 else -1
  have ht : ∀ k, k < w.heap.size → τ' k = τ k := fun k hk => if_pos hk
  refine ⟨τ', ht, ?_⟩
  have r2 : RowAt w2 g 69 [.bool true, ev, hv] := h.row.only hb (fun e => heg g e rfl)
  exact {
    row := by have := r2.set 1 ev'; simpa using this
    tg := by rw [ht g hgl]; exact hg0
    eo := by
      have := own_only ho o2 (fun k hk => he'g k hk)
      rw [List.length_append, List.length_singleton, List.map_append, List.map_singleton]
      exact this
    te := fun k hk => by
      by_cases hlt : k < w.heap.size
      · rw [ht k hlt]
        rcases hat k hk with h1 | h1
        · exact h.te k h1
        · omega
      · show (if k < w.heap.size then τ k else if ev'.ownBlock = some k then 1 else if cv.ownBlock = some k then 3 else -1) = 1
        rw [if_neg hlt, if_pos hk]
    ho := own_only (own_only h.ho hb (fun k hk => hhe k hk)) o2 (fun k hk => hhg k hk)
    th := fun k hk => by rw [ht k (own_block_lt h.ho k hk)]; exact h.th k hk
    qo := fun i x hi => ⟨own_only (own_only (h.qo i x hi).1 hb (fun k hk => (hq i x hi k hk).2)) o2 (fun k hk => (hq i x hi k hk).1), fun k hk => by
      rw [ht k (own_block_lt (h.qo i x hi).1 k hk)]
      exact (h.qo i x hi).2 k hk⟩
    ql := h.ql
    eb := fun x hm => by
      rcases List.mem_append.1 hm with hm | hm
      · refine ⟨o2.byt' (hb.byt' (h.eb x hm).1 (fun hl k hk => (hx x hm hl k hk).2)) (fun hl k hk => (hx x hm hl k hk).1), (h.eb x hm).2.1, fun hl k hk => ?_⟩
        rw [ht k (byt_block (h.eb x hm).1 hl k hk)]
        exact (h.eb x hm).2.2 hl k hk
      · obtain rfl := List.mem_singleton.1 hm
        refine ⟨o2.byt' hc (fun hl k hk e => by have := (hcn hl k hk).1; omega), h8, fun hl k hk => ?_⟩
        obtain ⟨c1, c2⟩ := hcn hl k hk
        show (if k < w.heap.size then τ k else if ev'.ownBlock = some k then 1 else if cv.ownBlock = some k then 3 else -1) = 3
        rw [if_neg (by omega), if_neg c2, if_pos hk] }
/-- one height more, without digests -/
theorem Lg.growH {w w2 : World} {τ : Nat → Int} {g : Nat} {ev hv hv' : Value} {P : List (Value × List Nat)} {Q : List (Value × List (List Nat))} (h : Lg w τ g ev hv P Q)
    (hb : Only (fun k => hv.ownBlock = some k) w w2) (ho : w2.ownsRow 0 121 1 hv' (Q.length + 1) (Q.map (·.1) ++ [.slice none 0 0])) (hat : ∀ k, hv'.ownBlock = some k → hv.ownBlock = some k ∨ w.heap.size ≤ k) :
    ∃ τ' : Nat → Int, (∀ k, k < w.heap.size → τ' k = τ k) ∧ Lg (w2.setCell ⟨g, 2, none⟩ hv') τ' g ev hv' P (Q ++ [(.slice none 0 0, [])]) := by
  have hg0 := h.tg
  have hgl := h.row.lt
  have hhg : ∀ k, hv.ownBlock = some k → k ≠ g := fun k hk e => by have := h.th k hk; rw [e, hg0] at this; omega
  have heg : ∀ k, ev.ownBlock = some k → k ≠ g ∧ hv.ownBlock ≠ some k := fun k hk => ⟨fun e => by have := h.te k hk; rw [e, hg0] at this; omega, fun e => by have := h.te k hk; rw [h.th k e] at this; omega⟩
  have hh'g : ∀ k, hv'.ownBlock = some k → k ≠ g := fun k hk e => by
    rcases hat k hk with h1 | h1
    · exact hhg k h1 e
    · omega
  have hq : ∀ (i : Nat) x, Q[i]? = some x → ∀ k, x.1.ownBlock = some k → k ≠ g ∧ hv.ownBlock ≠ some k := fun i x hx k hk => by
    have := (h.qo i x hx).2 k hk
    refine ⟨fun e => by rw [e, hg0] at this; omega, fun e => by rw [h.th k e] at this; omega⟩
  have hx : ∀ x ∈ P, x.2 ≠ [] → ∀ k, x.1.ownBlock = some k → k ≠ g ∧ hv.ownBlock ≠ some k := fun x hx hl k hk => by
    have := (h.eb x hx).2.2 hl k hk
    refine ⟨fun e => by rw [e, hg0] at this; omega, fun e => by rw [h.th k e] at this; omega⟩
  have o2 : Only (fun k => k = g) w2 (w2.setCell ⟨g, 2, none⟩ hv') := (Only.refl _ _).set g 2 hv' rfl
  let τ' : Nat → Int := fun k => if k < w.heap.size then τ k else if hv'.ownBlock = some k then 2 else -1
  have ht : ∀ k, k < w.heap.size → τ' k = τ k := fun k hk => if_pos hk
  refine ⟨τ', ht, ?_⟩
  have r2 : RowAt w2 g 69 [.bool true, ev, hv] := h.row.only hb (fun e => hhg g e rfl)
  exact {
    row := by have := r2.set 2 hv'; simpa using this
    tg := by rw [ht g hgl]; exact hg0
    eo := own_only (own_only h.eo hb (fun k hk => (heg k hk).2)) o2 (fun k hk => (heg k hk).1)
    te := fun k hk => by rw [ht k (own_block_lt h.eo k hk)]; exact h.te k hk
    ho := by
      have := own_only ho o2 (fun k hk => hh'g k hk)
      rw [List.length_append, List.length_singleton, List.map_append, List.map_singleton]
      exact this
    th := fun k hk => by
      by_cases hlt : k < w.heap.size
      · rw [ht k hlt]
        rcases hat k hk with h1 | h1
        · exact h.th k h1
        · omega
      · show (if k < w.heap.size then τ k else if hv'.ownBlock = some k then 2 else -1) = 2
        rw [if_neg hlt, if_pos hk]
    qo := fun i x hi => by
      by_cases hlt : i < Q.length
      · rw [List.getElem?_append_left hlt] at hi
        refine ⟨own_only (own_only (h.qo i x hi).1 hb (fun k hk => (hq i x hi k hk).2)) o2 (fun k hk => (hq i x hi k hk).1), fun k hk => ?_⟩
        rw [ht k (own_block_lt (h.qo i x hi).1 k hk)]
        exact (h.qo i x hi).2 k hk
      · rw [List.getElem?_append_right (by omega)] at hi
        have : x = (.slice none 0 0, []) := by
          cases hc : i - Q.length with
          | zero => rw [hc] at hi; simpa using hi.symm
          | succ m => rw [hc] at hi; simp at hi
        subst this
        exact ⟨World.ownsRow_nil _ _ _ _, fun k hk => by cases hk⟩
    ql := fun i x hi s hs => by
      by_cases hlt : i < Q.length
      · rw [List.getElem?_append_left hlt] at hi
        exact h.ql i x hi s hs
      · rw [List.getElem?_append_right (by omega)] at hi
        have : x = (.slice none 0 0, []) := by
          cases hc : i - Q.length with
          | zero => rw [hc] at hi; simpa using hi.symm
          | succ m => rw [hc] at hi; simp at hi
        subst this
        cases hs
    eb := fun x hm => by
      refine ⟨o2.byt' (hb.byt' (h.eb x hm).1 (fun hl k hk => (hx x hm hl k hk).2)) (fun hl k hk => (hx x hm hl k hk).1), (h.eb x hm).2.1, fun hl k hk => ?_⟩
      rw [ht k (byt_block (h.eb x hm).1 hl k hk)]
      exact (h.eb x hm).2.2 hl k hk }
/-- one digest more at a height -/
theorem Lg.putH {w w2 : World} {τ : Nat → Int} {g b hc i : Nat} {ev v' : Value} {P : List (Value × List Nat)} {Q : List (Value × List (List Nat))} {x : Value × List (List Nat)} {s : List Nat} (h : Lg w τ g ev (.slice (some ⟨b, 0, none⟩) Q.length hc) P Q)
    (hi : Q[i]? = some x) (hb : Only (fun k => x.1.ownBlock = some k) w w2) (ho : w2.ownsRow 0 43 32 v' (x.2.length + 1) (bv x.2.flatten ++ bv s)) (hat : ∀ k, v'.ownBlock = some k → x.1.ownBlock = some k ∨ w.heap.size ≤ k) (hs : s.length = 32 ∧ U8 s) :
    ∃ τ' : Nat → Int, (∀ k, k < w.heap.size → τ' k = τ k) ∧ Lg (w2.setCell ⟨b, i, none⟩ v') τ' g ev (.slice (some ⟨b, 0, none⟩) Q.length hc) P (Q.set i (v', x.2 ++ [s])) := by
  have hg0 := h.tg
  have hgl := h.row.lt
  have hil : i < Q.length := (List.getElem?_eq_some_iff.1 hi).1
  have hb2 : τ b = 2 := h.th b rfl
  have hbl : b < w.heap.size := own_block_lt h.ho b rfl
  have hxi := (h.qo i x hi).2
  have hxg : ∀ k, x.1.ownBlock = some k → k ≠ g ∧ k ≠ b := fun k hk => by
    have := hxi k hk
    exact ⟨fun e => by rw [e, hg0] at this; omega, fun e => by rw [e, hb2] at this; omega⟩
  have hgb : g ≠ b := fun e => by rw [e, hb2] at hg0; omega
  have heg : ∀ k, ev.ownBlock = some k → k ≠ b ∧ x.1.ownBlock ≠ some k := fun k hk => ⟨fun e => by have := h.te k hk; rw [e, hb2] at this; omega, fun e => by have := h.te k hk; rw [hxi k e] at this; omega⟩
  have hv'b : ∀ k, v'.ownBlock = some k → k ≠ b := fun k hk e => by
    rcases hat k hk with h1 | h1
    · exact (hxg k h1).2 e
    · omega
  have hq : ∀ (j : Nat) y, Q[j]? = some y → j ≠ i → ∀ k, y.1.ownBlock = some k → k ≠ b ∧ x.1.ownBlock ≠ some k := fun j y hy hj k hk => by
    have := (h.qo j y hy).2 k hk
    refine ⟨fun e => by rw [e, hb2] at this; omega, fun e => by rw [hxi k e] at this; omega⟩
  have hx : ∀ y ∈ P, y.2 ≠ [] → ∀ k, y.1.ownBlock = some k → k ≠ b ∧ x.1.ownBlock ≠ some k := fun y hy hl k hk => by
    have := (h.eb y hy).2.2 hl k hk
    refine ⟨fun e => by rw [e, hb2] at this; omega, fun e => by rw [hxi k e] at this; omega⟩
  have o2 : Only (fun k => k = b) w2 (w2.setCell ⟨b, i, none⟩ v') := (Only.refl _ _).set b i v' rfl
  let τ' : Nat → Int := fun k => if k < w.heap.size then τ k else if v'.ownBlock = some k then 4 + i else -1
  have ht : ∀ k, k < w.heap.size → τ' k = τ k := fun k hk => if_pos hk
  refine ⟨τ', ht, ?_⟩
  have ho2 : w2.ownsRow 0 121 1 (.slice (some ⟨b, 0, none⟩) Q.length hc) Q.length (Q.map (·.1)) := own_only h.ho hb (fun k hk => by
    simp only [Value.ownBlock, Option.some.injEq] at hk
    subst hk
    intro e
    exact (hxg _ e).2 rfl)
  exact {
    row := (h.row.only hb (fun e => (hxg g e).1 rfl)).only o2 hgb
    tg := by rw [ht g hgl]; exact hg0
    eo := own_only (own_only h.eo hb (fun k hk => (heg k hk).2)) o2 (fun k hk => (heg k hk).1)
    te := fun k hk => by rw [ht k (own_block_lt h.eo k hk)]; exact h.te k hk
    ho := by
      have := (ho2.stored i v').1
      rw [List.map_set]
      simpa using this
    th := fun k hk => by
      have : k = b := by simpa [Value.ownBlock] using hk.symm
      rw [this, ht b hbl]
      exact hb2
    qo := fun j y hj => by
      by_cases e : j = i
      · subst e
        rw [List.getElem?_set_self hil] at hj
        obtain rfl := Option.some.inj hj
        refine ⟨?_, fun k hk => ?_⟩
        · have := own_only ho o2 (fun k hk => hv'b k hk)
          simpa [bv_append] using this
        · by_cases hlt : k < w.heap.size
          · rw [ht k hlt]
            rcases hat k hk with h1 | h1
            · exact hxi k h1
            · omega
          · show (if k < w.heap.size then τ k else if v'.ownBlock = some k then 4 + (j : Int) else -1) = 4 + j
            rw [if_neg hlt, if_pos hk]
      · rw [List.getElem?_set_ne (Ne.symm e)] at hj
        refine ⟨own_only (own_only (h.qo j y hj).1 hb (fun k hk => (hq j y hj e k hk).2)) o2 (fun k hk => (hq j y hj e k hk).1), fun k hk => ?_⟩
        rw [ht k (own_block_lt (h.qo j y hj).1 k hk)]
        exact (h.qo j y hj).2 k hk
    ql := fun j y hj t htm => by
      by_cases e : j = i
      · subst e
        rw [List.getElem?_set_self hil] at hj
        obtain rfl := Option.some.inj hj
        rcases List.mem_append.1 htm with hm | hm
        · exact h.ql _ x hi t hm
        · obtain rfl := List.mem_singleton.1 hm
          exact hs
      · rw [List.getElem?_set_ne (Ne.symm e)] at hj
        exact h.ql j y hj t htm
    eb := fun y hm => by
      refine ⟨o2.byt' (hb.byt' (h.eb y hm).1 (fun hl k hk => (hx y hm hl k hk).2)) (fun hl k hk => (hx y hm hl k hk).1), (h.eb y hm).2.1, fun hl k hk => ?_⟩
      rw [ht k (byt_block (h.eb y hm).1 hl k hk)]
      exact (h.eb y hm).2.2 hl k hk }
end Go.Proofs.YtonkgiiacholeaaDoor
