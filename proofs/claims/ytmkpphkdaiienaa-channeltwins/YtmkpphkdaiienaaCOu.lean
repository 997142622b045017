/- Frames that are to be sent: Out. -/
import Derived.Test.YtmkpphkdaiienaaCNw
namespace Go.Proofs.Ytmkpphkdaiienaa
set_option linter.unusedVariables false
set_option linter.unusedSimpArgs false
open Go.ChangeShapes Go.WideShapes Go.ChangeAt Go.RowKit Go.Joins Go.Deep

structure Fm where
  conn : Int
  seq : Int
  ack : Int
  v : Value
  body : List Nat
def Fm.cs (f : Fm) : List Value := [.int .i64 f.conn, .int .i64 f.seq, .int .i64 f.ack, f.v]
def fcs (q : List Fm) : List Value := q.flatMap Fm.cs
theorem fcs_app (a b : List Fm) : fcs (a ++ b) = fcs a ++ fcs b := by simp [fcs]
theorem fcs_get : ∀ (q : List Fm) (i f : Nat) (p : Fm), q[i]? = some p → f < 4 → (fcs q)[i * 4 + f]? = p.cs[f]?
  | [], i, f, p, h, _ => by simp at h
  | x :: r, 0, f, p, h, hf => by
    obtain rfl : x = p := by simpa using h
    simp only [fcs, List.flatMap_cons, Nat.zero_mul, Nat.zero_add]
    rw [List.getElem?_append_left (by simp [Fm.cs]; omega)]
  | x :: r, i + 1, f, p, h, hf => by
    simp only [fcs, List.flatMap_cons]
    rw [List.getElem?_append_right (by simp [Fm.cs]; omega)]
    rw [show (i + 1) * 4 + f - x.cs.length = i * 4 + f by simp [Fm.cs]; omega]
    exact fcs_get r i f p (by simpa using h) hf
abbrev Key := Int × Int × Int × List Nat
def Fm.key (f : Fm) : Key := (f.conn, f.seq, f.ack, f.body)
def outK (s : CS) (p : Par) : Key := (s.conn, p.seq, s.want - 1, p.body)
def lvOf (s : CS) : List Par := outL (min s.q.length 4) s.q
def outs (s : CS) : List Key := if (lvOf s).length = 0 then (if s.owes = true then [(s.conn, 0, s.want - 1, [])] else []) else (lvOf s).map (outK s)
def outS (s : CS) : CS := (s.withQ (mapN freshP (min s.q.length 4) s.q)).withE s.want s.early false
theorem outL_mem {k : Nat} {q : List Par} {p : Par} (h : p ∈ outL k q) : ∃ p' ∈ q, p.v = p'.v ∧ p.body = p'.body ∧ p.sent = true ∧ p.ticks = 0 ∧ p.seq = p'.seq := by
  unfold outL at h
  obtain ⟨p', h1, rfl⟩ := List.mem_map.1 h
  obtain ⟨h2, h3⟩ := List.mem_filter.1 h1
  exact ⟨p', List.mem_of_mem_take h2, freshP_v p', freshP_b p', by unfold freshP; rw [if_pos h3], by unfold freshP; rw [if_pos h3], by unfold freshP; split <;> rfl⟩
structure OuI (w wr : World) (B g m : Nat) (vq : Value) (s : CS) (l0 : Value) (L : List Fm) (l : Value) (ks : List Key) : Prop where
  ch : Ch wr B g m vq (s.withQ (mapN freshP (min s.q.length 4) s.q))
  tu : Turn w wr g m vq vq
  lvo : wr.ownsRow w.heap.size 96 4 l0 (lvOf s).length (qcs (lvOf s))
  own : wr.ownsRow w.heap.size 34 4 l L.length (fcs L)
  key : L.map Fm.key = ks
  bod : ∀ f ∈ L, wr.ownsRow w.heap.size 5 1 f.v f.body.length (bv f.body)
theorem OuI.call {w wr w1 : World} {B g m : Nat} {vq l0 l : Value} {s : CS} {L : List Fm} {ks : List Key} (h : OuI w wr B g m vq s l0 L l ks) (hb : Below wr.heap.size wr w1) : OuI w w1 B g m vq s l0 L l ks :=
  ⟨h.ch.call hb, h.tu.trans (Turn.below hb), own_call h.lvo hb, own_call h.own hb, h.key, fun f hf => own_call (h.bod f hf) hb⟩
theorem OuI.add {w w1 w3 : World} {B g m : Nat} {vq l0 l l' : Value} {s : CS} {L : List Fm} {ks : List Key} (h : OuI w w1 B g m vq s l0 L l ks) (hlt : Lt w.heap.size g m vq s) (f : Fm) (hf : w1.ownsRow w.heap.size 5 1 f.v f.body.length (bv f.body))
    (ho : Only (fun i => l.ownBlock = some i) w1 w3) (hl : w3.ownsRow w.heap.size 34 4 l' (L.length + 1) (fcs L ++ f.cs)) : OuI w w3 B g m vq s l0 (L ++ [f]) l' (ks ++ [f.key]) := by
  have h4 : Only (fun i => w.heap.size ≤ i) w1 w3 := ho.mono (fun i hi => (h.own.lt i hi).1)
  refine ⟨h.ch.hi (hlt.mapN freshP freshP_v _) h4, ⟨h.tu.1.next h4 (fun i hi => .inr hi), fun i hi => .inl hi⟩, own_only h.lvo ho (fun k hk e => own_ne h.own h.lvo (by decide) k e hk), ?_, by rw [List.map_append, h.key]; rfl, ?_⟩
  · rw [List.length_append, fcs_app]
    simpa [fcs] using hl
  · intro x hx
    rcases List.mem_append.1 hx with hx | hx
    · exact own_only (h.bod x hx) ho (fun k hk e => own_ne h.own (h.bod x hx) (by decide) k e hk)
    · obtain rfl := List.mem_singleton.1 hx
      exact own_only hf ho (fun k hk e => own_ne h.own hf (by decide) k e hk)
structure OutI (w w' : World) (B g m : Nat) (vq : Value) (s : CS) (L : List Fm) (l : Value) : Prop where
  ch : Ch w' B g m vq (outS s)
  tu : Turn w w' g m vq vq
  own : w'.ownsRow w.heap.size 34 4 l L.length (fcs L)
  key : L.map Fm.key = outs s
  bod : ∀ f ∈ L, w'.ownsRow w.heap.size 5 1 f.v f.body.length (bv f.body)
def OutR (B g m : Nat) (vq : Value) (s : CS) (w : World) (r : Ending) (w' : World) : Prop := ∃ L l, r = .returned l ∧ OutI w w' B g m vq s L l
theorem OutR.shape {B g m : Nat} {vq : Value} {s : CS} {w w' : World} {r : Ending} (h : OutR B g m vq s w r w') : ∃ L l, r = .returned l ∧ OutI w w' B g m vq s L l := h
theorem out_end {w wr : World} {B g m : Nat} {vq l0 l : Value} {s : CS} {L : List Fm} (h : OuI w wr B g m vq s l0 L l (outs s)) : OutR B g m vq s w (.returned l) (wr.setCell ⟨g, 4, none⟩ (.bool false)) ∧ wr.cell? ⟨g, 4, none⟩ = some (.bool s.owes) ∧ wr.frozen? ⟨g, 4, none⟩ = false := by
  obtain ⟨c2, t2⟩ := h.ch.owes false
  have o3 : Only (· = g) wr (wr.setCell ⟨g, 4, none⟩ (.bool false)) := Only.set (p := (· = g)) (Only.refl _ _) g 4 _ rfl
  exact ⟨⟨L, l, rfl, c2, h.tu.trans t2, own_only h.own o3 (fun k hk e => tag_ne h.own h.ch.row (by decide) (e ▸ hk)), h.key, fun f hf => own_only (h.bod f hf) o3 (fun k hk e => tag_ne (h.bod f hf) h.ch.row (by decide) (e ▸ hk))⟩, h.ch.row.cell 4, h.ch.row.frozen 4⟩
theorem LvR.shape {B g m : Nat} {vq : Value} {s : CS} {w w' : World} {r : Ending} (h : LvR B g m vq s w r w') : ∃ l, r = .returned l ∧ OuI w w' B g m vq s l [] (.slice none 0 0) [] := by
  obtain ⟨l, rfl, h⟩ := h
  exact ⟨l, rfl, h.ch, h.tu, h.own, ⟨rfl, .inl ⟨rfl, rfl⟩⟩, rfl, fun f hf => by cases hf⟩
theorem infoFr : (Try.prog.info? 34).map (fun i => (i.zero, i.size, i.bytes)) = some (some (.agg #[.int .i64 0, .int .i64 0, .int .i64 0, .slice none 0 0]), 4, 48) := by kernel_rfl
theorem lvOf_len (s : CS) : (lvOf s).length ≤ 4 := Nat.le_trans (outL_len _ _) (Nat.min_le_right _ _)
theorem outs_take {s : CS} {k : Nat} {p : Par} (h : (lvOf s)[k]? = some p) : ((lvOf s).take (k + 1)).map (outK s) = ((lvOf s).take k).map (outK s) ++ [outK s p] := by
  have hk := (List.getElem?_eq_some_iff.1 h).1
  have he := (List.getElem?_eq_some_iff.1 h).2
  rw [List.take_succ_eq_append_getElem hk, List.map_append, he]
  rfl
theorem OuI.len {w wr : World} {B g m : Nat} {vq l0 l : Value} {s : CS} {L : List Fm} {ks : List Key} (h : OuI w wr B g m vq s l0 L l ks) : L.length = ks.length := by rw [← h.key, List.length_map]
theorem own_oneC {w : World} {B s n : Nat} {e : TypeId} {v : Value} {xs : List Value} (h : w.ownsRow B e s v n xs) : v.oneCell' = true := by
  rcases h.2 with ⟨rfl, _⟩ | ⟨g, c, cur, rfl, _⟩ <;> rfl
set_option maxRecDepth 100000 in
set_option maxHeartbeats 4000000 in
theorem out_any (B g m : Nat) (vq : Value) (s : CS) (w : World) (h : Ch w B g m vq s) (hk : s.Ok) (ht : ∀ p ∈ s.q, 0 ≤ p.ticks ∧ p.ticks ≤ 1000000000) (hbl : ∀ p ∈ s.q, p.body.length ≤ 1000000000) :
    Calls Try.prog 22 #[.pointer (some ⟨g, 0, none⟩)] w fun r w' => OutR B g m vq s w r w' := by
  have K := hide (made_ok g s.conn w (h.row.cell 5) hk.c)
  have HLV := hide (leave_ok B g m vq s w h hk.q ht)
  have HLT := hide h.lt
  have HC0 := hide h
  have HBLS := hide hbl
  obtain ⟨wt, hwt⟩ : ∃ z, s.want = z := ⟨_, rfl⟩
  have hw0 : 0 < wt := by have := hk.w0; omega
  have hw1 : wt ≤ 4611686018427387904 := by have := hk.w1; omega
  have HWT := hide hwt
  obtain ⟨cn, hcn⟩ : ∃ z, s.conn = z := ⟨_, rfl⟩
  have HCN := hide hcn
  obtain ⟨N, hN⟩ : ∃ z, (lvOf s).length = z := ⟨_, rfl⟩
  have hN4 : N ≤ 4 := by have := lvOf_len s; omega
  have HN := hide hN
  clear h hk ht hbl hwt hcn hN
  go_enter Try.func22, Try.ntmps22
  go_wp2_with fail
  refine Calls.mono (unhide K) ?_
  rintro r w' ⟨rfl, rfl⟩
  clear K
  go_wp2_with fail
  refine Calls.mono (unhide HLV) ?_
  intro r wl hl
  obtain ⟨l0, rfl, h1⟩ := hl.shape
  have HI0 := hide h1
  obtain ⟨a0, c0, h0⟩ := own_one h1.lvo
  rw [unhide HN] at h0
  subst h0
  clear hl h1 HLV
  go_wp2_with fail
  go_loopw [3, 14] (fun l i wr => ∃ (k : Nat) (L : List Fm), k ≤ N ∧ i = .int .i64 (k : Int) ∧ Hid (OuI w wr B g m vq s (.slice a0 N c0) L l (((lvOf s).take k).map (outK s)))) (fun _ i _ => N - (intOf i).toNat)
  case atStart => exact ⟨0, [], by omega, rfl, HI0⟩
  case round =>
    clear HI0
    obtain ⟨k, L, hk, rfl, HI⟩ := hrel
    obtain ⟨al, cl, hal⟩ := own_one (unhide HI).own
    subst hal
    have HLL : Hid (L.length = k) := hide (by rw [(unhide HI).len, List.length_map, List.length_take, unhide HN]; omega)
    by_cases g1 : k < N
    · have i1 : (k : Int) < (N : Int) := by omega
      have i0 : (0 : Int) ≤ (k : Int) := by omega
      obtain ⟨p, hp⟩ : ∃ p, (lvOf s)[k]? = some p := ⟨_, List.getElem?_eq_getElem (by rw [unhide HN]; omega)⟩
      obtain ⟨gq, rfl, -, hc, hcm, -, hx⟩ := qcell (unhide HI).lvo (by rw [unhide HN]; omega)
      have q0 : wr.cell? ⟨gq, k * 4, none⟩ = some (.int .i64 p.seq) := hx k p hp 0 (by omega)
      have q1 : wr.cell? ⟨gq, k * 4 + 1, none⟩ = some p.v := hx k p hp 1 (by omega)
      have q2 : wr.cell? ⟨gq, k * 4 + 2, none⟩ = some (.bool p.sent) := hx k p hp 2 (by omega)
      have q3 : wr.cell? ⟨gq, k * 4 + 3, none⟩ = some (.int .i64 p.ticks) := hx k p hp 3 (by omega)
      have HOT := hide (outs_take hp)
      obtain ⟨p2, hp2, hpv, hpb, -⟩ := outL_mem (List.mem_of_getElem? hp)
      have HBL : Hid (p.body.length ≤ 1000000000) := hide (by rw [hpb]; exact unhide HBLS p2 hp2)
      obtain ⟨ap, cp, hap⟩ := own_one ((unhide HC0).bod p2 hp2)
      rw [← hpv, ← hpb] at hap
      have HPV := hide hap
      rw [hap] at q1
      have HP2 := hide (And.intro hp2 (And.intro hpv hpb))
      clear hx hcm hp hc hap hp2 hpv hpb
      go_wp2_with fail
      have b1 : Below wr.heap.size wr (wr.alloc (.cells #[.int .i64 p.seq, .slice ap p.body.length cp, .bool p.sent, .int .i64 p.ticks] 96)) := (Below.refl _ _).alloc (Nat.le_refl _) _
      have HX1 := hide (RowAt.new wr 96 [.int .i64 p.seq, .slice ap p.body.length cp, .bool p.sent, .int .i64 p.ticks])
      have HI1 := hide ((unhide HI).call b1)
      obtain ⟨w1, hw1'⟩ : ∃ z, wr.alloc (.cells #[.int .i64 p.seq, .slice ap p.body.length cp, .bool p.sent, .int .i64 p.ticks] 96) = z := ⟨_, rfl⟩
      obtain ⟨gb, hgb⟩ : ∃ z, wr.heap.size = z := ⟨_, rfl⟩
      rw [hw1'] at HX1 HI1 ⊢
      rw [hgb] at HX1 ⊢
      clear q0 q1 q2 q3 b1 hw1' hgb HI
      refine wp_region_T (S := fun W => W.cell? ⟨g, 5, none⟩ = some (.int .i64 cn) ∧ W.cell? ⟨gb, 0, none⟩ = some (.int .i64 p.seq) ∧ W.cell? ⟨gb, 1, none⟩ = some (.slice ap p.body.length cp) ∧ W.cell? ⟨g, 2, none⟩ = some (.int .i64 wt)) (fun i => decide (i < 17)) (by kernel_rfl) ⟨by rw [← unhide HCN]; exact (unhide HI1).ch.row.cell 5, (unhide HX1).cell 0, (unhide HX1).cell 1, by rw [← unhide HWT]; exact (unhide HI1).ch.row.cell 2⟩ (fun hHeld => ?_)
      have bd : Below w1.heap.size w1 w1.drew := Below.drew (Below.refl _ w1)
      have HI2 := hide ((unhide HI1).call bd)
      have HX2 := hide ((unhide HX1).drew)
      obtain ⟨w2, hw2⟩ : ∃ z, w1.drew = z := ⟨_, rfl⟩
      rw [hw2] at HI2 HX2 hHeld ⊢
      clear hw2 bd HI1 HX1
      have HBY := hide ((unhide HC0).keep (unhide HI2).tu.1 ((unhide HC0).bod p2 (unhide HP2).1))
      rw [← (unhide HP2).2.1, ← (unhide HP2).2.2, unhide HPV] at HBY
      refine wpAnyT_take (i := 0) (oi := { dst := some 18, op := Op.move (Operand.tmp 3), type := 48, pos := "channel.go:104", after := #[], guard := none }) (v := .slice al L.length cl) rfl (by kernel_rfl) (by kernel_rfl) (by kernel_rfl) (by kernel_rfl) (fun _ _ _ h => h) (Or.inl ⟨by rfl, ?_⟩) hHeld ?_
      · intro w hSw
        obtain ⟨h5, b0, b1, h2⟩ := hSw
        first
          | rfl
          | (go_simp; done)
      try simp only [Act.put, List.setIfInBounds_toArray, List.set_cons_zero, List.set_cons_succ]
      refine wpAnyT_take (i := 1) (oi := { dst := some 19, op := Op.move (Operand.tmp 0), type := 23, pos := "channel.go:104", after := #[], guard := none }) (v := .pointer (some ⟨g, 0, none⟩)) rfl (by kernel_rfl) (by kernel_rfl) (by kernel_rfl) (by kernel_rfl) (fun _ _ _ h => h) (Or.inl ⟨by rfl, ?_⟩) hHeld ?_
      · intro w hSw
        obtain ⟨h5, b0, b1, h2⟩ := hSw
        first
          | rfl
          | (go_simp; done)
      try simp only [Act.put, List.setIfInBounds_toArray, List.set_cons_zero, List.set_cons_succ]
      refine wpAnyT_take (i := 2) (oi := { dst := some 20, op := Op.nilCheck (Operand.tmp 19), type := 0, pos := "channel.go:104", after := #[{ on := 1, ground := Ground.data }], guard := none }) (v := .pointer (some ⟨g, 0, none⟩)) rfl (by kernel_rfl) (by kernel_rfl) (by kernel_rfl) (by kernel_rfl) (fun _ _ _ h => h) (Or.inl ⟨by rfl, ?_⟩) hHeld ?_
      · intro w hSw
        obtain ⟨h5, b0, b1, h2⟩ := hSw
        first
          | rfl
          | (go_simp; done)
      try simp only [Act.put, List.setIfInBounds_toArray, List.set_cons_zero, List.set_cons_succ]
      refine wpAnyT_take (i := 3) (oi := { dst := some 21, op := Op.fieldAddr 80 (Operand.tmp 20) 2, type := 0, pos := "channel.go:104", after := #[{ on := 2, ground := Ground.data }], guard := none }) (v := .pointer (some ⟨g, 5, none⟩)) rfl (by kernel_rfl) (by kernel_rfl) (by kernel_rfl) (by kernel_rfl) (fun _ _ _ h => h) (Or.inl ⟨by rfl, ?_⟩) hHeld ?_
      · intro w hSw
        obtain ⟨h5, b0, b1, h2⟩ := hSw
        first
          | rfl
          | (go_simp; done)
      try simp only [Act.put, List.setIfInBounds_toArray, List.set_cons_zero, List.set_cons_succ]
      refine wpAnyT_take (i := 4) (oi := { dst := some 22, op := Op.load 3 (Operand.tmp 21), type := 3, pos := "channel.go:104", after := #[{ on := 3, ground := Ground.data }], guard := none }) (v := .int .i64 cn) rfl (by kernel_rfl) (by kernel_rfl) (by kernel_rfl) (by kernel_rfl) (fun _ _ _ h => h) (Or.inl ⟨by rfl, ?_⟩) hHeld ?_
      · intro w hSw
        obtain ⟨h5, b0, b1, h2⟩ := hSw
        first
          | rfl
          | (go_simp; done)
      try simp only [Act.put, List.setIfInBounds_toArray, List.set_cons_zero, List.set_cons_succ]
      refine wpAnyT_take (i := 5) (oi := { dst := some 23, op := Op.fieldAddr 96 (Operand.tmp 5) 0, type := 0, pos := "channel.go:104", after := #[], guard := none }) (v := .pointer (some ⟨gb, 0, none⟩)) rfl (by kernel_rfl) (by kernel_rfl) (by kernel_rfl) (by kernel_rfl) (fun _ _ _ h => h) (Or.inl ⟨by rfl, ?_⟩) hHeld ?_
      · intro w hSw
        obtain ⟨h5, b0, b1, h2⟩ := hSw
        first
          | rfl
          | (go_simp; done)
      try simp only [Act.put, List.setIfInBounds_toArray, List.set_cons_zero, List.set_cons_succ]
      refine wpAnyT_take (i := 6) (oi := { dst := some 24, op := Op.load 3 (Operand.tmp 23), type := 3, pos := "channel.go:104", after := #[{ on := 5, ground := Ground.data }], guard := none }) (v := .int .i64 p.seq) rfl (by kernel_rfl) (by kernel_rfl) (by kernel_rfl) (by kernel_rfl) (fun _ _ _ h => h) (Or.inl ⟨by rfl, ?_⟩) hHeld ?_
      · intro w hSw
        obtain ⟨h5, b0, b1, h2⟩ := hSw
        first
          | rfl
          | (go_simp; done)
      try simp only [Act.put, List.setIfInBounds_toArray, List.set_cons_zero, List.set_cons_succ]
      refine wpAnyT_take (i := 7) (oi := { dst := some 25, op := Op.move (Operand.tmp 0), type := 23, pos := "channel.go:104", after := #[], guard := none }) (v := .pointer (some ⟨g, 0, none⟩)) rfl (by kernel_rfl) (by kernel_rfl) (by kernel_rfl) (by kernel_rfl) (fun _ _ _ h => h) (Or.inl ⟨by rfl, ?_⟩) hHeld ?_
      · intro w hSw
        obtain ⟨h5, b0, b1, h2⟩ := hSw
        first
          | rfl
          | (go_simp; done)
      try simp only [Act.put, List.setIfInBounds_toArray, List.set_cons_zero, List.set_cons_succ]
      refine wpAnyT_take (i := 8) (oi := { dst := some 26, op := Op.nilCheck (Operand.tmp 25), type := 0, pos := "channel.go:104", after := #[{ on := 7, ground := Ground.data }], guard := none }) (v := .pointer (some ⟨g, 0, none⟩)) rfl (by kernel_rfl) (by kernel_rfl) (by kernel_rfl) (by kernel_rfl) (fun _ _ _ h => h) (Or.inl ⟨by rfl, ?_⟩) hHeld ?_
      · intro w hSw
        obtain ⟨h5, b0, b1, h2⟩ := hSw
        first
          | rfl
          | (go_simp; done)
      try simp only [Act.put, List.setIfInBounds_toArray, List.set_cons_zero, List.set_cons_succ]
      refine wpAnyT_take (i := 9) (oi := { dst := some 27, op := Op.fieldAddr 80 (Operand.tmp 26) 1, type := 0, pos := "channel.go:104", after := #[{ on := 8, ground := Ground.data }], guard := none }) (v := .pointer (some ⟨g, 2, none⟩)) rfl (by kernel_rfl) (by kernel_rfl) (by kernel_rfl) (by kernel_rfl) (fun _ _ _ h => h) (Or.inl ⟨by rfl, ?_⟩) hHeld ?_
      · intro w hSw
        obtain ⟨h5, b0, b1, h2⟩ := hSw
        first
          | rfl
          | (go_simp; done)
      try simp only [Act.put, List.setIfInBounds_toArray, List.set_cons_zero, List.set_cons_succ]
      refine wpAnyT_take (i := 11) (oi := { dst := some 29, op := Op.fieldAddr 96 (Operand.tmp 5) 1, type := 0, pos := "channel.go:104", after := #[], guard := none }) (v := .pointer (some ⟨gb, 1, none⟩)) rfl (by kernel_rfl) (by kernel_rfl) (by kernel_rfl) (by kernel_rfl) (fun _ _ _ h => h) (Or.inl ⟨by rfl, ?_⟩) hHeld ?_
      · intro w hSw
        obtain ⟨h5, b0, b1, h2⟩ := hSw
        first
          | rfl
          | (go_simp; done)
      try simp only [Act.put, List.setIfInBounds_toArray, List.set_cons_zero, List.set_cons_succ]
      refine wpAnyT_take (i := 12) (oi := { dst := some 30, op := Op.load 32 (Operand.tmp 29), type := 32, pos := "channel.go:104", after := #[{ on := 11, ground := Ground.data }], guard := none }) (v := .slice ap p.body.length cp) rfl (by kernel_rfl) (by kernel_rfl) (by kernel_rfl) (by kernel_rfl) (fun _ _ _ h => h) (Or.inl ⟨by rfl, ?_⟩) hHeld ?_
      · intro w hSw
        obtain ⟨h5, b0, b1, h2⟩ := hSw
        first
          | rfl
          | (go_simp; done)
      try simp only [Act.put, List.setIfInBounds_toArray, List.set_cons_zero, List.set_cons_succ]
      refine wpAnyT_one (i := 10) (o := { dst := some 28, op := Op.call { callee := Callee.value (Operand.func 49), args := #[Operand.tmp 27], argTypes := #[78] }, type := 3, pos := "channel.go:104", after := #[{ on := 9, ground := Ground.data }], guard := none }) (by kernel_rfl) rfl (fun K hK => ?_)
      go_simp
      refine Calls.mono (told_ok g wt w2 hHeld.2.2.2 hw0 hw1) ?_
      rintro r w9 ⟨rfl, rfl⟩
      go_wp2_with fail
      refine hK.out _ _ (fun _ => hHeld) ?_
      clear hK K
      try simp only [Act.put, List.setIfInBounds_toArray, List.set_cons_zero, List.set_cons_succ]
      refine wpAnyT_one (i := 13) (o := { dst := some 31, op := Op.call { callee := Callee.value (Operand.func 14), args := #[Operand.tmp 30], argTypes := #[32] }, type := 32, pos := "channel.go:104", after := #[{ on := 12, ground := Ground.data }, { on := 10, ground := Ground.chain }], guard := none }) (by kernel_rfl) rfl (fun K hK => ?_)
      go_simp
      refine Calls.mono (clone_any _ p.body w2 (unhide HBY).byt (by have := unhide HBL; omega)) ?_
      rintro r w3 ⟨vc, rfl, o1, b1⟩
      obtain ⟨avc, cvc, rfl⟩ := own_one o1
      have HVC : Hid (w3.ownsRow w.heap.size 5 1 (.slice avc p.body.length cvc) p.body.length (bv p.body)) := hide ⟨o1.1, o1.2.imp id (fun ⟨g, c, cur, e1, e2, e3⟩ => ⟨g, c, cur, e1, Nat.le_trans (unhide HI2).tu.1.size e2, e3⟩)⟩
      have HI3 := hide ((unhide HI2).call b1)
      have HX3 := hide ((unhide HX2).below b1 (unhide HX2).lt)
      have hS3 := And.intro (cell_keep b1 (lt_of_cell hHeld.1) hHeld.1) (And.intro (cell_keep b1 (lt_of_cell hHeld.2.1) hHeld.2.1) (And.intro (cell_keep b1 (lt_of_cell hHeld.2.2.1) hHeld.2.2.1) (cell_keep b1 (lt_of_cell hHeld.2.2.2) hHeld.2.2.2)))
      clear o1 b1 HI2 HX2 HBY hHeld
      go_wp2_with fail
      refine hK.out _ _ (fun _ => hS3) ?_
      clear hK K
      try simp only [Act.put, List.setIfInBounds_toArray, List.set_cons_zero, List.set_cons_succ]
      refine wpAnyT_take (i := 14) (oi := { dst := some 32, op := Op.build 34 #[(0, Operand.tmp 22), (1, Operand.tmp 24), (2, Operand.tmp 28), (3, Operand.tmp 31)], type := 34, pos := "channel.go:104", after := #[{ on := 4, ground := Ground.data }, { on := 6, ground := Ground.data }, { on := 10, ground := Ground.data }, { on := 13, ground := Ground.data }], guard := none }) (v := .agg #[.int .i64 cn, .int .i64 p.seq, .int .i64 (wt - 1), .slice avc p.body.length cvc]) rfl (by kernel_rfl) (by kernel_rfl) (by kernel_rfl) (by kernel_rfl) (fun _ _ _ h => h) (Or.inl ⟨by rfl, ?_⟩) hS3 ?_
      · intro w hSw
        obtain ⟨h5, b0, b1, h2⟩ := hSw
        first
          | rfl
          | (go_simp; done)
      try simp only [Act.put, List.setIfInBounds_toArray, List.set_cons_zero, List.set_cons_succ]
      refine wpAnyT_one (i := 15) (o := { dst := some 33, op := Op.buildSlice 48 1 #[(0, Operand.tmp 32)], type := 48, pos := "channel.go:104", after := #[{ on := 14, ground := Ground.data }], guard := none }) (by kernel_rfl) rfl (fun K hK => ?_)
      go_simp
      have b1 : Below w3.heap.size w3 (w3.alloc (.cells #[.int .i64 cn, .int .i64 p.seq, .int .i64 (wt - 1), .slice avc p.body.length cvc] 34)) := (Below.refl _ _).alloc (Nat.le_refl _) _
      have HI4 := hide ((unhide HI3).call b1)
      have HV4 := hide (own_call (unhide HVC) b1)
      have HQ := hide (RowAt.new w3 34 [.int .i64 cn, .int .i64 p.seq, .int .i64 (wt - 1), .slice avc p.body.length cvc])
      have hS4 := And.intro (cell_keep b1 (lt_of_cell hS3.1) hS3.1) (And.intro (cell_keep b1 (lt_of_cell hS3.2.1) hS3.2.1) (And.intro (cell_keep b1 (lt_of_cell hS3.2.2.1) hS3.2.2.1) (cell_keep b1 (lt_of_cell hS3.2.2.2) hS3.2.2.2)))
      have HX4 := hide ((unhide HX3).below b1 (unhide HX3).lt)
      obtain ⟨w4, hw4⟩ : ∃ z, (w3.alloc (.cells #[.int .i64 cn, .int .i64 p.seq, .int .i64 (wt - 1), .slice avc p.body.length cvc] 34)) = z := ⟨_, rfl⟩
      obtain ⟨q9, hq9⟩ : ∃ z, w3.heap.size = z := ⟨_, rfl⟩
      rw [hw4] at HI4 HV4 HQ hS4 HX4 ⊢
      rw [hq9] at HQ ⊢
      clear hw4 hq9 b1 HI3 HVC hS3 HX3
      refine hK.out _ _ (fun _ => hS4) ?_
      clear hK K
      try simp only [Act.put, List.setIfInBounds_toArray, List.set_cons_zero, List.set_cons_succ]
      refine wpAnyT_one (i := 16) (o := { dst := some 34, op := Op.call { callee := Callee.builtin Builtin.append, args := #[Operand.tmp 18, Operand.tmp 33], argTypes := #[48, 48] }, type := 48, pos := "channel.go:104", after := #[{ on := 0, ground := Ground.data }, { on := 15, ground := Ground.data }, { on := 13, ground := Ground.chain }], guard := none }) (by kernel_rfl) rfl (fun K hK => ?_)
      refine wp_app (Operand.tmp 18) (Operand.tmp 33) 48 34 _ 4 48 Try.underlying48 infoFr (by simp [Value.cells]) (by decide) (by decide) rfl w.heap.size (.slice al L.length cl) L.length (fcs L) [.int .i64 cn, .int .i64 p.seq, .int .i64 (wt - 1), .slice avc p.body.length cvc] q9 1 rfl (unhide HI4).own (by have := unhide HLL; omega) (unhide HI4).tu.1.size rfl rfl (fun j u hu => by rw [(unhide HQ).cell]; exact hu) (fun u hu => ?_) (fun j9 cap w5 hv5 ho5 hk5 => ?_)
      · simp only [List.mem_cons, List.not_mem_nil, or_false] at hu
        rcases hu with rfl | rfl | rfl | rfl
        · rfl
        · rfl
        · rfl
        · exact own_oneC (unhide HV4)
      have HI5 := hide ((unhide HI4).add (unhide HLT) ⟨cn, p.seq, wt - 1, .slice avc p.body.length cvc, p.body⟩ (unhide HV4) ho5 hv5)
      have HX5 := hide ((unhide HX4).only ho5 (fun e => tag_ne (unhide HI4).own (unhide HX4) (by decide) e))
      have hS5 := And.intro (show w5.cell? ⟨g, 5, none⟩ = some (.int .i64 cn) by rw [← unhide HCN]; exact (unhide HI5).ch.row.cell 5) (And.intro ((unhide HX5).cell 0) (And.intro ((unhide HX5).cell 1) (show w5.cell? ⟨g, 2, none⟩ = some (.int .i64 wt) by rw [← unhide HWT]; exact (unhide HI5).ch.row.cell 2)))
      clear hv5 ho5 hk5 HI4 HV4 HQ HX4 hS4
      refine hK.out _ _ (fun _ => hS5) ?_
      clear hK K
      clear hS5 HX5
      try simp only [Act.put, List.setIfInBounds_toArray, List.set_cons_zero, List.set_cons_succ]
      refine wpAnyT_pure (i := 17) (oi := { dst := some 3, op := Op.assign (Operand.tmp 34), type := 48, pos := "channel.go:104", after := #[{ on := 16, ground := Ground.data }, { on := 16, ground := Ground.chain }, { on := 0, ground := Ground.phase }, { on := 1, ground := Ground.phase }, { on := 2, ground := Ground.phase }, { on := 3, ground := Ground.phase }, { on := 4, ground := Ground.phase }, { on := 5, ground := Ground.phase }, { on := 6, ground := Ground.phase }, { on := 7, ground := Ground.phase }, { on := 8, ground := Ground.phase }, { on := 9, ground := Ground.phase }, { on := 10, ground := Ground.phase }, { on := 11, ground := Ground.phase }, { on := 12, ground := Ground.phase }, { on := 13, ground := Ground.phase }, { on := 14, ground := Ground.phase }, { on := 15, ground := Ground.phase }, { on := 16, ground := Ground.phase }], guard := none }) (v := .slice (some ⟨j9, 0, none⟩) (L.length + 1) cap) rfl (by kernel_rfl) (by kernel_rfl) (by kernel_rfl) rfl (fun _ _ _ h => h) (Or.inl ⟨by rfl, ?_⟩) ?_
      · intro w hSw
        first
          | rfl
          | (go_simp; done)
      try simp only [Act.put, List.setIfInBounds_toArray, List.set_cons_zero, List.set_cons_succ]
      refine wpAnyT_done (by kernel_rfl) ?_ _
      go_wp2_with fail
      go_roundw
      case rel => exact ⟨k + 1, _, by omega, by go_num, hide (by rw [unhide HOT]; exact (show outK s p = Fm.key ⟨cn, p.seq, wt - 1, .slice avc p.body.length cvc, p.body⟩ by unfold outK Fm.key; rw [unhide HCN, unhide HWT]) ▸ unhide HI5)⟩
      case measure => simp [intOf]; omega
    · have hkN : k = N := by omega
      have i1 : ¬ (k : Int) < (N : Int) := by omega
      have HTK : Hid (((lvOf s).take k).map (outK s) = (lvOf s).map (outK s)) := hide (by rw [List.take_of_length_le (by rw [unhide HN]; omega)])
      rw [unhide HTK, unhide HLL, hkN] at HI
      rw [unhide HLL, hkN]
      by_cases g2 : N = 0
      · subst g2
        have hLN : Hid (L.length = 0) := hide (by rw [unhide HLL, hkN])
        have HLZ := hLN
        have q4 : wr.cell? ⟨g, 4, none⟩ = some (.bool s.owes) := (unhide HI).ch.row.cell 4
        have HZ : Hid ((lvOf s).map (outK s) = []) := hide (by rw [List.eq_nil_of_length_eq_zero (unhide HN)]; rfl)
        rw [unhide HZ] at HI
        cases hs : s.owes with
        | false =>
          rw [hs] at q4
          have HOU : Hid (outs s = []) := hide (by unfold outs; rw [if_pos (unhide HN), hs]; rfl)
          have HSO := hide hs
          clear hs
          obtain ⟨e1, e2, e3⟩ := out_end (w := w) (wr := wr) (B := B) (g := g) (m := m) (vq := vq) (l0 := .slice a0 0 c0) (l := .slice al 0 cl) (s := s) (L := L) (by rw [unhide HOU]; exact unhide HI)
          have HEN := hide e1
          clear e1 HI
          rw [unhide HSO] at e2
          go_wp2_with fail
          go_ret
          exact unhide HEN
        | true =>
          rw [hs] at q4
          have HOU : Hid (outs s = [] ++ [(s.conn, 0, s.want - 1, [])]) := hide (by unfold outs; rw [if_pos (unhide HN), hs]; rfl)
          have HSO := hide hs
          clear hs
          go_wp2_with fail
          refine wp_region_T (S := fun W => W.cell? ⟨g, 5, none⟩ = some (.int .i64 cn) ∧ W.cell? ⟨g, 2, none⟩ = some (.int .i64 wt)) (fun i => decide (i < 12)) (by kernel_rfl) ⟨by rw [← unhide HCN]; exact (unhide HI).ch.row.cell 5, by rw [← unhide HWT]; exact (unhide HI).ch.row.cell 2⟩ (fun hHeld => ?_)
          have bd : Below wr.heap.size wr wr.drew := Below.drew (Below.refl _ wr)
          have HI2 := hide ((unhide HI).call bd)
          obtain ⟨w2, hw2⟩ : ∃ z, wr.drew = z := ⟨_, rfl⟩
          rw [hw2] at HI2 hHeld ⊢
          clear hw2 bd HI
          refine wpAnyT_take (i := 0) (oi := { dst := some 46, op := Op.move (Operand.tmp 3), type := 48, pos := "channel.go:107", after := #[], guard := none }) (v := .slice al 0 cl) rfl (by kernel_rfl) (by kernel_rfl) (by kernel_rfl) (by kernel_rfl) (fun _ _ _ h => h) (Or.inl ⟨by rfl, ?_⟩) hHeld ?_
          · intro w hSw
            obtain ⟨h5, h2⟩ := hSw
            first
              | rfl
              | (go_simp; done)
          try simp only [Act.put, List.setIfInBounds_toArray, List.set_cons_zero, List.set_cons_succ]
          refine wpAnyT_take (i := 1) (oi := { dst := some 47, op := Op.move (Operand.tmp 0), type := 23, pos := "channel.go:107", after := #[], guard := none }) (v := .pointer (some ⟨g, 0, none⟩)) rfl (by kernel_rfl) (by kernel_rfl) (by kernel_rfl) (by kernel_rfl) (fun _ _ _ h => h) (Or.inl ⟨by rfl, ?_⟩) hHeld ?_
          · intro w hSw
            obtain ⟨h5, h2⟩ := hSw
            first
              | rfl
              | (go_simp; done)
          try simp only [Act.put, List.setIfInBounds_toArray, List.set_cons_zero, List.set_cons_succ]
          refine wpAnyT_take (i := 2) (oi := { dst := some 48, op := Op.nilCheck (Operand.tmp 47), type := 0, pos := "channel.go:107", after := #[{ on := 1, ground := Ground.data }], guard := none }) (v := .pointer (some ⟨g, 0, none⟩)) rfl (by kernel_rfl) (by kernel_rfl) (by kernel_rfl) (by kernel_rfl) (fun _ _ _ h => h) (Or.inl ⟨by rfl, ?_⟩) hHeld ?_
          · intro w hSw
            obtain ⟨h5, h2⟩ := hSw
            first
              | rfl
              | (go_simp; done)
          try simp only [Act.put, List.setIfInBounds_toArray, List.set_cons_zero, List.set_cons_succ]
          refine wpAnyT_take (i := 3) (oi := { dst := some 49, op := Op.fieldAddr 80 (Operand.tmp 48) 2, type := 0, pos := "channel.go:107", after := #[{ on := 2, ground := Ground.data }], guard := none }) (v := .pointer (some ⟨g, 5, none⟩)) rfl (by kernel_rfl) (by kernel_rfl) (by kernel_rfl) (by kernel_rfl) (fun _ _ _ h => h) (Or.inl ⟨by rfl, ?_⟩) hHeld ?_
          · intro w hSw
            obtain ⟨h5, h2⟩ := hSw
            first
              | rfl
              | (go_simp; done)
          try simp only [Act.put, List.setIfInBounds_toArray, List.set_cons_zero, List.set_cons_succ]
          refine wpAnyT_take (i := 4) (oi := { dst := some 50, op := Op.load 3 (Operand.tmp 49), type := 3, pos := "channel.go:107", after := #[{ on := 3, ground := Ground.data }], guard := none }) (v := .int .i64 cn) rfl (by kernel_rfl) (by kernel_rfl) (by kernel_rfl) (by kernel_rfl) (fun _ _ _ h => h) (Or.inl ⟨by rfl, ?_⟩) hHeld ?_
          · intro w hSw
            obtain ⟨h5, h2⟩ := hSw
            first
              | rfl
              | (go_simp; done)
          try simp only [Act.put, List.setIfInBounds_toArray, List.set_cons_zero, List.set_cons_succ]
          refine wpAnyT_take (i := 5) (oi := { dst := some 51, op := Op.move (Operand.tmp 0), type := 23, pos := "channel.go:107", after := #[], guard := none }) (v := .pointer (some ⟨g, 0, none⟩)) rfl (by kernel_rfl) (by kernel_rfl) (by kernel_rfl) (by kernel_rfl) (fun _ _ _ h => h) (Or.inl ⟨by rfl, ?_⟩) hHeld ?_
          · intro w hSw
            obtain ⟨h5, h2⟩ := hSw
            first
              | rfl
              | (go_simp; done)
          try simp only [Act.put, List.setIfInBounds_toArray, List.set_cons_zero, List.set_cons_succ]
          refine wpAnyT_take (i := 6) (oi := { dst := some 52, op := Op.nilCheck (Operand.tmp 51), type := 0, pos := "channel.go:107", after := #[{ on := 5, ground := Ground.data }], guard := none }) (v := .pointer (some ⟨g, 0, none⟩)) rfl (by kernel_rfl) (by kernel_rfl) (by kernel_rfl) (by kernel_rfl) (fun _ _ _ h => h) (Or.inl ⟨by rfl, ?_⟩) hHeld ?_
          · intro w hSw
            obtain ⟨h5, h2⟩ := hSw
            first
              | rfl
              | (go_simp; done)
          try simp only [Act.put, List.setIfInBounds_toArray, List.set_cons_zero, List.set_cons_succ]
          refine wpAnyT_take (i := 7) (oi := { dst := some 53, op := Op.fieldAddr 80 (Operand.tmp 52) 1, type := 0, pos := "channel.go:107", after := #[{ on := 6, ground := Ground.data }], guard := none }) (v := .pointer (some ⟨g, 2, none⟩)) rfl (by kernel_rfl) (by kernel_rfl) (by kernel_rfl) (by kernel_rfl) (fun _ _ _ h => h) (Or.inl ⟨by rfl, ?_⟩) hHeld ?_
          · intro w hSw
            obtain ⟨h5, h2⟩ := hSw
            first
              | rfl
              | (go_simp; done)
          try simp only [Act.put, List.setIfInBounds_toArray, List.set_cons_zero, List.set_cons_succ]
          refine wpAnyT_one (i := 8) (o := { dst := some 54, op := Op.call { callee := Callee.value (Operand.func 49), args := #[Operand.tmp 53], argTypes := #[78] }, type := 3, pos := "channel.go:107", after := #[{ on := 7, ground := Ground.data }], guard := none }) (by kernel_rfl) rfl (fun K hK => ?_)
          go_simp
          refine Calls.mono (told_ok g wt w2 hHeld.2 hw0 hw1) ?_
          rintro r w9 ⟨rfl, rfl⟩
          go_wp2_with fail
          refine hK.out _ _ (fun _ => hHeld) ?_
          clear hK K
          try simp only [Act.put, List.setIfInBounds_toArray, List.set_cons_zero, List.set_cons_succ]
          refine wpAnyT_take (i := 9) (oi := { dst := some 55, op := Op.build 34 #[(0, Operand.tmp 50), (2, Operand.tmp 54)], type := 34, pos := "channel.go:107", after := #[{ on := 4, ground := Ground.data }, { on := 8, ground := Ground.data }], guard := none }) (v := .agg #[.int .i64 cn, .int .i64 0, .int .i64 (wt - 1), .slice none 0 0]) rfl (by kernel_rfl) (by kernel_rfl) (by kernel_rfl) (by kernel_rfl) (fun _ _ _ h => h) (Or.inl ⟨by rfl, ?_⟩) hHeld ?_
          · intro w hSw
            obtain ⟨h5, h2⟩ := hSw
            first
              | rfl
              | (go_simp; done)
          try simp only [Act.put, List.setIfInBounds_toArray, List.set_cons_zero, List.set_cons_succ]
          refine wpAnyT_one (i := 10) (o := { dst := some 56, op := Op.buildSlice 48 1 #[(0, Operand.tmp 55)], type := 48, pos := "channel.go:107", after := #[{ on := 9, ground := Ground.data }], guard := none }) (by kernel_rfl) rfl (fun K hK => ?_)
          go_simp
          have b1 : Below w2.heap.size w2 (w2.alloc (.cells #[.int .i64 cn, .int .i64 0, .int .i64 (wt - 1), .slice none 0 0] 34)) := (Below.refl _ _).alloc (Nat.le_refl _) _
          have HI4 := hide ((unhide HI2).call b1)
          have HQ := hide (RowAt.new w2 34 [.int .i64 cn, .int .i64 0, .int .i64 (wt - 1), .slice none 0 0])
          have hS4 := And.intro (cell_keep b1 (lt_of_cell hHeld.1) hHeld.1) (cell_keep b1 (lt_of_cell hHeld.2) hHeld.2)
          obtain ⟨w4, hw4⟩ : ∃ z, (w2.alloc (.cells #[.int .i64 cn, .int .i64 0, .int .i64 (wt - 1), .slice none 0 0] 34)) = z := ⟨_, rfl⟩
          obtain ⟨q9, hq9⟩ : ∃ z, w2.heap.size = z := ⟨_, rfl⟩
          rw [hw4] at HI4 HQ hS4 ⊢
          rw [hq9] at HQ ⊢
          clear hw4 hq9 b1 HI2 hHeld
          refine hK.out _ _ (fun _ => hS4) ?_
          clear hK K
          try simp only [Act.put, List.setIfInBounds_toArray, List.set_cons_zero, List.set_cons_succ]
          refine wpAnyT_one (i := 11) (o := { dst := some 57, op := Op.call { callee := Callee.builtin Builtin.append, args := #[Operand.tmp 46, Operand.tmp 56], argTypes := #[48, 48] }, type := 48, pos := "channel.go:107", after := #[{ on := 0, ground := Ground.data }, { on := 10, ground := Ground.data }, { on := 8, ground := Ground.chain }], guard := none }) (by kernel_rfl) rfl (fun K hK => ?_)
          refine wp_app (Operand.tmp 46) (Operand.tmp 56) 48 34 _ 4 48 Try.underlying48 infoFr (by simp [Value.cells]) (by decide) (by decide) rfl w.heap.size (.slice al 0 cl) 0 (fcs L) [.int .i64 cn, .int .i64 0, .int .i64 (wt - 1), .slice none 0 0] q9 1 rfl (by have := (unhide HI4).own; rw [unhide HLZ] at this; exact this) (by decide) (unhide HI4).tu.1.size rfl rfl (fun j u hu => by rw [(unhide HQ).cell]; exact hu) (fun u hu => ?_) (fun j9 cap w5 hv5 ho5 hk5 => ?_)
          · simp only [List.mem_cons, List.not_mem_nil, or_false] at hu
            rcases hu with rfl | rfl | rfl | rfl <;> rfl
          have HI5 := hide ((unhide HI4).add (l' := .slice (some ⟨j9, 0, none⟩) (0 + 1) cap) (unhide HLT) ⟨cn, 0, wt - 1, .slice none 0 0, []⟩ ⟨rfl, .inl ⟨rfl, rfl⟩⟩ ho5 (by rw [unhide HLZ]; exact hv5))
          have hS5 := And.intro (show w5.cell? ⟨g, 5, none⟩ = some (.int .i64 cn) by rw [← unhide HCN]; exact (unhide HI5).ch.row.cell 5) (show w5.cell? ⟨g, 2, none⟩ = some (.int .i64 wt) by rw [← unhide HWT]; exact (unhide HI5).ch.row.cell 2)
          clear hv5 ho5 hk5 HI4 HQ hS4
          refine hK.out _ _ (fun _ => hS5) ?_
          clear hK K
          clear hS5
          try simp only [Act.put, List.setIfInBounds_toArray, List.set_cons_zero, List.set_cons_succ]
          refine wpAnyT_pure (i := 12) (oi := { dst := some 3, op := Op.assign (Operand.tmp 57), type := 48, pos := "channel.go:107", after := #[{ on := 11, ground := Ground.data }, { on := 11, ground := Ground.chain }, { on := 0, ground := Ground.phase }, { on := 1, ground := Ground.phase }, { on := 2, ground := Ground.phase }, { on := 3, ground := Ground.phase }, { on := 4, ground := Ground.phase }, { on := 5, ground := Ground.phase }, { on := 6, ground := Ground.phase }, { on := 7, ground := Ground.phase }, { on := 8, ground := Ground.phase }, { on := 9, ground := Ground.phase }, { on := 10, ground := Ground.phase }, { on := 11, ground := Ground.phase }], guard := none }) (v := .slice (some ⟨j9, 0, none⟩) (0 + 1) cap) rfl (by kernel_rfl) (by kernel_rfl) (by kernel_rfl) rfl (fun _ _ _ h => h) (Or.inl ⟨by rfl, ?_⟩) ?_
          · intro w hSw
            first
              | rfl
              | (go_simp; done)
          try simp only [Act.put, List.setIfInBounds_toArray, List.set_cons_zero, List.set_cons_succ]
          refine wpAnyT_done (by kernel_rfl) ?_ _
          obtain ⟨e1, e2, e3⟩ := out_end (w := w) (wr := w5) (B := B) (g := g) (m := m) (vq := vq) (l0 := .slice a0 0 c0) (l := .slice (some ⟨j9, 0, none⟩) (0 + 1) cap) (s := s) (L := _) (by rw [unhide HOU]; exact (show Fm.key ⟨cn, 0, wt - 1, .slice none 0 0, []⟩ = (s.conn, 0, s.want - 1, []) by unfold Fm.key; rw [unhide HCN, unhide HWT]) ▸ unhide HI5)
          have HEN := hide e1
          clear e1 HI5
          rw [unhide HSO] at e2
          go_wp2_with fail
          go_ret
          exact unhide HEN
      · have g3 : ((N : Int) == 0) = false := by simp [g2]
        have HOU : Hid (outs s = (lvOf s).map (outK s)) := hide (by unfold outs; rw [if_neg (by rw [unhide HN]; exact g2)])
        obtain ⟨e1, e2, e3⟩ := out_end (w := w) (wr := wr) (B := B) (g := g) (m := m) (vq := vq) (l0 := .slice a0 N c0) (l := .slice al N cl) (s := s) (L := L) (by rw [unhide HOU]; exact unhide HI)
        have HEN := hide e1
        clear e1 HI
        go_wp2_with fail
        go_ret
        exact unhide HEN
end Go.Proofs.Ytmkpphkdaiienaa
