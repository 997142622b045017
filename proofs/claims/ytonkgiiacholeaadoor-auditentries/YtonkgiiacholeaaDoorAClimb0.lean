/- Climbing: one more entry's digest, and those of all stretches that are whole with it. -/
import Derived.Test.YtonkgiiacholeaaDoorAPair
import Derived.Test.YtonkgiiacholeaaDoorARg
namespace Go.Proofs.YtonkgiiacholeaaDoor
set_option linter.unusedVariables false
set_option linter.unusedSimpArgs false
open Go.ChangeShapes Go.WideShapes Go.ChangeAt Go.RowKit Go.Joins

theorem own_shape {w : World} {b s n : Nat} {e : TypeId} {v : Value} {xs : List Value} (h : w.ownsRow b e s v n xs) : ∃ a c, v = .slice a n c ∧ n ≤ c := by
  rcases h.2 with ⟨rfl, rfl⟩ | ⟨g, cap, cur, rfl, _, _, h1, _⟩
  · exact ⟨none, 0, rfl, Nat.le_refl _⟩
  · exact ⟨_, cap, rfl, h1⟩
theorem own_some {w : World} {b s n : Nat} {e : TypeId} {v : Value} {xs : List Value} (h : w.ownsRow b e s v n xs) (hn : 0 < n) : ∃ g c, v = .slice (some ⟨g, 0, none⟩) n c ∧ n ≤ c := by
  rcases h.2 with ⟨rfl, rfl⟩ | ⟨g, cap, cur, rfl, _, _, h1, _⟩
  · omega
  · exact ⟨_, cap, rfl, h1⟩
theorem info43 : (Tryd.prog.info? 43).map (fun i => (i.zero, i.size, i.bytes)) = some (some (.agg (bv (List.replicate 32 0)).toArray), 32, 32) := by kernel_rfl
theorem grown_only {w w' : World} {row : Option Nat} (h : w.grownBy w' row) : Only (fun k => row = some k) w w' := ⟨h.os, h.tape, h.output, h.size, fun k hk hn => h.block k hk (fun e => hn e.symm)⟩
theorem info121 : (Tryd.prog.info? 121).map (fun i => (i.zero, i.size, i.bytes)) = some (some (.slice none 0 0), 1, 24) := by kernel_rfl

/-- what climbing holds at the head of its loop -/
structure Cl (w wr : World) (τ : Nat → Int) (g gs : Nat) (ev : Value) (P : List (Value × List Nat)) (E : List (List Nat)) (d : List Nat) (j : Nat) (whole : Bool) (τr : Nat → Int) (hv : Value) (Q : List (Value × List (List Nat))) (s : List Nat) : Prop where
  lg : Lg wr τr g ev hv P Q
  old : ∀ k, k < w.heap.size → τr k = τ k
  far : τr gs = -1
  row : RowAt wr gs 43 (bv s)
  len : s.length = 32 ∧ U8 s
  only : Only (fun k => τ k ≠ -1) w wr
  yes : whole = true → Q.map (·.2) = midL E d j ∧ 2 ^ j ∣ E.length + 1 ∧ s = digL (cutE (E ++ [d]) (E.length + 1 - 2 ^ j) (2 ^ j))
  no : whole = false → Q.map (·.2) = heightsL (E ++ [d])

/-- what climbing holds ahead of putting a digest at a height -/
structure Cb (w W : World) (τ : Nat → Int) (g : Nat) (ev : Value) (P : List (Value × List Nat)) (E : List (List Nat)) (d : List Nat) (j : Nat) (τ2 : Nat → Int) (b N hc : Nat) (Q : List (Value × List (List Nat))) (s : List Nat) (xa : Option Addr) (xn xc : Nat) : Prop where
  lg : Lg W τ2 g ev (.slice (some ⟨b, 0, none⟩) N hc) P Q
  nl : Q.length = N
  jl : j < N
  xj : Q[j]? = some (.slice xa xn xc, lvl E j)
  xl : (lvl E j).length = xn
  old : ∀ k, k < w.heap.size → τ2 k = τ k
  far : τ2 w.heap.size = -1
  row : RowAt W w.heap.size 43 (bv s)
  len : s.length = 32 ∧ U8 s
  only : Only (fun k => τ k ≠ -1) w W
  nx : ∀ v', (Q.set j (v', lvl E j ++ [s])).map (·.2) = midL E d (j + 1)
  dv : 2 ^ j ∣ E.length + 1
  sv : s = digL (cutE (E ++ [d]) (E.length + 1 - 2 ^ j) (2 ^ j))
structure Cr (w W : World) (g b N hc j : Nat) (s : List Nat) (xa : Option Addr) (xn xc : Nat) : Prop where
  g2 : W.cell? ⟨g, 2, none⟩ = some (.slice (some ⟨b, 0, none⟩) N hc)
  bj : W.cell? ⟨b, j, none⟩ = some (.slice xa xn xc)
  zb : W.frozen? ⟨b, j, none⟩ = false
  rs : W.rangeAt w.heap.size 0 (bv s)
  gl : g < W.heap.size
  bl : b < W.heap.size
  sl : w.heap.size < W.heap.size
  gb : g ≠ b
  sb : w.heap.size ≠ b
  xb : ∀ k, (Value.slice xa xn xc).ownBlock = some k → k ≠ b ∧ k ≠ g ∧ k ≠ w.heap.size
theorem Cb.reads {w W : World} {τ τ2 : Nat → Int} {g j b N hc xn xc : Nat} {ev : Value} {P : List (Value × List Nat)} {E : List (List Nat)} {d s : List Nat} {Q : List (Value × List (List Nat))} {xa : Option Addr} (h : Cb w W τ g ev P E d j τ2 b N hc Q s xa xn xc) : Cr w W g b N hc j s xa xn xc := by
  have ho := h.lg.ho
  rw [h.nl] at ho
  have tb : τ2 b = 2 := h.lg.th b rfl
  have tg := h.lg.tg
  have ts := h.far
  have hx := (h.lg.qo j _ h.xj).2
  exact {
    g2 := h.lg.row.cell 2
    bj := by
      have := ho.cellAt j (by have := h.jl; omega)
      rw [this, List.getElem?_map, h.xj]
      rfl
    zb := ho.frozenAt j
    rs := h.row.range
    gl := h.lg.row.lt
    bl := own_block_lt ho b rfl
    sl := h.row.lt
    gb := fun e => by rw [e, tb] at tg; omega
    sb := fun e => by rw [e, tb] at ts; omega
    xb := fun k hk => by
      have := hx k hk
      exact ⟨fun e => by rw [e, tb] at this; omega, fun e => by rw [e, tg] at this; omega, fun e => by rw [e, ts] at this; omega⟩ }
/-- before the store, cells of other blocks are as they were -/
theorem Rg.cellB {V : Nat → Value} {W0 w' : World} {SA : Array Value} {b j xn : Nat} {xv : Value} {xs ss : List Value} {dn : Nat → Bool} {u : Nat → Value} (h : Rg V W0 SA b j (Gn W0 xv xn xs ss) dn u w') (h16 : dn 16 = false) {a : Addr} (ha : a.block < W0.heap.size) (hx : xv.ownBlock ≠ some a.block) : w'.cell? a = W0.cell? a ∧ w'.frozen? a = W0.frozen? a := by
  cases h13 : dn 13 with
  | false => rw [h.a0 h13]; exact ⟨rfl, rfl⟩
  | true =>
    cases h14 : dn 14 with
    | false =>
      rw [(h.a1 h13 h14).1]
      exact ⟨World.cell?_alloc_lt _ _ _ ha, World.frozen?_alloc_past _ _ _ ha⟩
    | true =>
      obtain ⟨gn, cap, _, _, ho, _⟩ := h.a2 h14 h16
      have := ho.block a.block ha hx
      exact ⟨World.cell?_of_block this, World.frozen?_of_block this⟩
theorem Cb.put {w W w3 : World} {τ τ2 : Nat → Int} {g j b N hc xn xc : Nat} {ev v' : Value} {P : List (Value × List Nat)} {E : List (List Nat)} {d s : List Nat} {Q : List (Value × List (List Nat))} {xa : Option Addr} (h : Cb w W τ g ev P E d j τ2 b N hc Q s xa xn xc)
    (hG : Gn W.drew (.slice xa xn xc) xn (bv (lvl E j).flatten) (bv s) w3 v') :
    ∃ τ3 : Nat → Int, Lg (w3.setCell ⟨b, j, none⟩ v') τ3 g ev (.slice (some ⟨b, 0, none⟩) N hc) P (Q.set j (v', lvl E j ++ [s])) ∧ (∀ k, k < w.heap.size → τ3 k = τ k) ∧ τ3 w.heap.size = -1 ∧ RowAt (w3.setCell ⟨b, j, none⟩ v') w.heap.size 43 (bv s) ∧ Only (fun k => τ k ≠ -1) w (w3.setCell ⟨b, j, none⟩ v') := by
  have hr := h.reads
  obtain ⟨gn, cap, hv, ho, hon, hat⟩ := hG
  have hon' : Only (fun k => (Value.slice xa xn xc).ownBlock = some k) W w3 := ⟨hon.os, hon.tape, hon.output, hon.size, hon.block⟩
  have hL := h.lg
  rw [← h.nl] at hL
  have hat' : ∀ k, v'.ownBlock = some k → (Value.slice xa xn xc).ownBlock = some k ∨ W.heap.size ≤ k := fun k hk => by
    rw [hv] at hk
    have : gn = k := by simpa [Value.ownBlock] using hk
    subst this
    exact hat
  have hxl := h.xl
  obtain ⟨τ3, t1, t2⟩ := hL.putH (s := s) h.xj hon' (by rw [hxl]; exact ho) hat' h.len
  rw [h.nl] at t2
  have o5 : Only (fun k => k = b) w3 (w3.setCell ⟨b, j, none⟩ v') := (Only.refl _ _).set b j v' rfl
  have hbt : τ2 b = 2 := h.lg.th b rfl
  refine ⟨τ3, t2, fun k hk => by rw [t1 k (by have := hr.sl; omega)]; exact h.old k hk, by rw [t1 _ hr.sl]; exact h.far, ?_, ?_⟩
  · exact (h.row.only hon' (fun e => (hr.xb _ e).2.2 rfl)).only o5 (fun e => hr.sb e)
  · refine h.only.next (q := fun k => (Value.slice xa xn xc).ownBlock = some k ∨ k = b) ((hon'.mono (fun i hi => .inl hi)).trans (o5.mono (fun i hi => .inr hi))) (fun i hi => ?_)
    by_cases hlt : i < w.heap.size
    · left
      have e := h.old i hlt
      rcases hi with hi | hi
      · have := (h.lg.qo j _ h.xj).2 i hi
        show τ i ≠ -1
        rw [← e, this]
        omega
      · show τ i ≠ -1
        rw [← e, hi, hbt]
        omega
    · right; omega
end Go.Proofs.YtonkgiiacholeaaDoor
