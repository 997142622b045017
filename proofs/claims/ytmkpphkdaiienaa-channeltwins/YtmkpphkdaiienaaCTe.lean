/- Bodies are told: tell. -/
import Derived.Test.YtmkpphkdaiienaaCKp
namespace Go.Proofs.Ytmkpphkdaiienaa
set_option linter.unusedVariables false
set_option linter.unusedSimpArgs false
open Go.ChangeShapes Go.WideShapes Go.ChangeAt Go.RowKit Go.Joins Go.Deep

def tellE : Nat → Int → List Er → List Er × Int × List Er
  | 0, a, E => ([], a, E)
  | f + 1, a, E => match lookE a E with
    | none => ([], a, E)
    | some x => (x :: (tellE f (a + 1) (E.eraseP (fun x => decide (x.key = a)))).1, (tellE f (a + 1) (E.eraseP (fun x => decide (x.key = a)))).2)
theorem lookE_erase {k : Int} {E : List Er} {x : Er} (h : lookE k E = some x) : (E.eraseP (fun x => decide (x.key = k))).length + 1 = E.length := by
  have h1 := lookE_mem h
  have := List.length_eraseP_of_mem h1.1 (p := fun x => decide (x.key = k)) (by simp [h1.2])
  have : 0 < E.length := List.length_pos_of_mem h1.1
  omega
theorem infoSl : (Try.prog.info? 32).map (fun i => (i.zero, i.size, i.bytes)) = some (some (.slice none 0 0), 1, 24) := by kernel_rfl
structure TeI (w wr : World) (B g m : Nat) (vq : Value) (s : CS) (o : List Er) (a : Int) (E : List Er) (l : Value) : Prop where
  ch : Ch wr B g m vq (s.withE a E s.owes)
  tu : Turn w wr g m vq vq
  own : wr.ownsRow w.heap.size 32 1 l o.length (o.map Er.v)
  eq : tellE s.early.length s.want s.early = (o ++ (tellE E.length a E).1, (tellE E.length a E).2)
  sub : ∀ x ∈ E, x ∈ s.early
  osub : ∀ x ∈ o, x ∈ s.early
  len : o.length + E.length = s.early.length
  a1 : a = s.want + (o.length : Int)
theorem TeI.call {w wr w1 : World} {B g m : Nat} {vq l : Value} {s : CS} {o : List Er} {a : Int} {E : List Er} (h : TeI w wr B g m vq s o a E l) (hb : Below wr.heap.size wr w1) : TeI w w1 B g m vq s o a E l :=
  ⟨h.ch.call hb, h.tu.trans (Turn.below hb), own_call h.own hb, h.eq, h.sub, h.osub, h.len, h.a1⟩
def TellR (B g m : Nat) (vq : Value) (s : CS) (w : World) (r : Ending) (w' : World) : Prop := ∃ o a E l, r = .returned l ∧ tellE s.early.length s.want s.early = (o, a, E) ∧ TeI w w' B g m vq s o a E l
def lenV : Value → Nat
  | .slice _ n _ => n
  | _ => 0
theorem te_none {w wr : World} {B g m : Nat} {vq l : Value} {s : CS} {o : List Er} {a : Int} {E : List Er} (h : TeI w wr B g m vq s o a E l) (hl : lookE a E = none) : TellR B g m vq s w (.returned l) wr := by
  have he : tellE E.length a E = ([], a, E) := by
    cases hE : E.length with
    | zero => rfl
    | succ n => simp [tellE, hl]
  have := h.eq
  rw [he] at this
  exact ⟨o, a, E, l, rfl, by simpa using this, h⟩
theorem te_next {w wr w1 w2 : World} {B g m : Nat} {vq l l' : Value} {s : CS} {o : List Er} {a : Int} {E : List Er} {x : Er} (h : TeI w wr B g m vq s o a E l) (hx : lookE a E = some x) (hs : Lt w.heap.size g m vq s)
    (h1 : Only (fun i => w.heap.size ≤ i) wr w1) (hl : w1.ownsRow w.heap.size 32 1 l' (o.length + 1) (o.map Er.v ++ [x.v])) (ho : Only (· = m) w1 w2) (hm : MapIs w2 m (E.eraseP (fun x => decide (x.key = a)))) :
    TeI w (w2.setCell ⟨g, 2, none⟩ (.int .i64 (a + 1))) B g m vq s (o ++ [x]) (a + 1) (E.eraseP (fun x => decide (x.key = a))) l' := by
  have hlt : Lt w.heap.size g m vq (s.withE a E s.owes) := ⟨hs.g, hs.m, hs.q, hs.bod, fun y hy => hs.erl y (h.sub y hy)⟩
  have c1 := h.ch.hi hlt h1
  obtain ⟨c2, t2⟩ := c1.early ho hm (fun y hy => c1.erl y (List.mem_of_mem_eraseP hy))
  obtain ⟨c3, t3⟩ := c2.wants (a + 1)
  have t1 : Turn w w1 g m vq vq := ⟨h.tu.1.next h1 (fun i hi => .inr hi), fun i hi => .inl hi⟩
  have o2 : w2.ownsRow w.heap.size 32 1 l' (o.length + 1) (o.map Er.v ++ [x.v]) := own_only hl ho (fun k hk e => own_map hl c1.map (e ▸ hk))
  have o3 : Only (· = g) w2 (w2.setCell ⟨g, 2, none⟩ (.int .i64 (a + 1))) := Only.set (p := (· = g)) (Only.refl _ _) g 2 _ rfl
  have hE := lookE_erase hx
  refine ⟨c3, (t1.trans t2).trans t3, ?_, ?_, fun y hy => h.sub y (List.mem_of_mem_eraseP hy), fun y hy => ?_, ?_, ?_⟩
  · have := own_only o2 o3 (fun k hk e => tag_ne o2 c2.row (by decide) (e ▸ hk))
    simpa using this
  · rw [h.eq, ← hE]
    simp [tellE, hx]
  · rcases List.mem_append.1 hy with hy | hy
    · exact h.osub y hy
    · obtain rfl := List.mem_singleton.1 hy
      exact h.sub y (lookE_mem hx).1
  · rw [List.length_append, List.length_singleton]
    have := h.len
    omega
  · rw [List.length_append, List.length_singleton, h.a1]
    omega
set_option maxRecDepth 100000 in
set_option maxHeartbeats 4000000 in
theorem tell_ok (B g m : Nat) (vq : Value) (s : CS) (w : World) (h : Ch w B g m vq s) (hE : EOk s) (hw0 : 0 < s.want) (hw1 : s.want ≤ 2305843009213693952) (hel : s.early.length ≤ 100000) :
    Calls Try.prog 43 #[.pointer (some ⟨g, 2, none⟩)] w fun r w' => TellR B g m vq s w r w' := by
  have HH : Hid (TeI w w B g m vq s [] s.want s.early (.slice none 0 0)) := hide ⟨h, Turn.refl _ _ _ _, ⟨rfl, .inl ⟨rfl, rfl⟩⟩, rfl, fun _ h => h, fun _ h => (by cases h), (by simp), (by simp)⟩
  have HLT := hide h.lt
  have HC0 := hide h
  have HEO := hide hE
  obtain ⟨N, hN⟩ : ∃ N, s.early.length = N := ⟨_, rfl⟩
  have HN := hide hN
  rw [hN] at hel
  have hq := fun W a n c => Go.run_neq_slice_nil (P := Try.prog) W 32 5 a n c Try.underlying32
  clear h hE hN
  obtain ⟨B0, hB0⟩ : ∃ B0, w.heap.size = B0 := ⟨_, rfl⟩
  have HBW := hide hB0
  clear hB0
  obtain ⟨wn, hwn⟩ : ∃ z, s.want = z := ⟨_, rfl⟩
  have HWN := hide hwn
  rw [hwn] at hw0 hw1
  clear hwn
  go_enter Try.func43, Try.ntmps43
  go_wp2_with fail
  go_loopw [3] (fun l wr => ∃ (o : List Er) (a : Int) (E : List Er), Hid (TeI w wr B g m vq s o a E l)) (fun l _ => N - lenV l)
  case atStart => exact ⟨_, _, _, HH⟩
  case round =>
    clear HH
    obtain ⟨o, a, E, HI⟩ := hrel
    obtain ⟨al, cl, hal⟩ := own_one (unhide HI).own
    subst hal
    cases hx : lookE a E with
    | none =>
      have HX := hide hx
      have HXV : Hid (valE none = .slice none 0 0) := hide rfl
      clear hx
      go_wp2_with fail
      refine wp_region_T (S := fun W => W.cell? ⟨g, 3, none⟩ = some (.map (some m)) ∧ W.cell? ⟨g, 2, none⟩ = some (.int .i64 a) ∧ MapIs W m E) (fun i => decide (i < 10)) (by kernel_rfl) ⟨(unhide HI).ch.row.cell 3, (unhide HI).ch.row.cell 2, (unhide HI).ch.map⟩ (fun hHeld => ?_)
      have HI2 := hide ((unhide HI).call (Below.drew (Below.refl _ wr)))
      obtain ⟨wd, hwd⟩ : ∃ z, wr.drew = z := ⟨_, rfl⟩
      rw [hwd] at HI2 hHeld ⊢
      clear hwd HI
      refine wpAnyT_take (i := 0) (oi := { dst := some 4, op := Op.move (Operand.tmp 0), type := 103, pos := "receiver.go:33", after := #[], guard := none }) (v := .pointer (some ⟨g, 2, none⟩)) rfl (by kernel_rfl) (by kernel_rfl) (by kernel_rfl) (by kernel_rfl) (fun _ _ _ h => h) (Or.inl ⟨by rfl, ?_⟩) hHeld ?_
      · intro w hSw
        obtain ⟨h3, h2, hm⟩ := hSw
        first
          | rfl
          | (go_simp; done)
      try simp only [Act.put, List.setIfInBounds_toArray, List.set_cons_zero, List.set_cons_succ]
      refine wpAnyT_take (i := 1) (oi := { dst := some 5, op := Op.nilCheck (Operand.tmp 4), type := 0, pos := "receiver.go:33", after := #[{ on := 0, ground := Ground.data }], guard := none }) (v := .pointer (some ⟨g, 2, none⟩)) rfl (by kernel_rfl) (by kernel_rfl) (by kernel_rfl) (by kernel_rfl) (fun _ _ _ h => h) (Or.inl ⟨by rfl, ?_⟩) hHeld ?_
      · intro w hSw
        obtain ⟨h3, h2, hm⟩ := hSw
        first
          | rfl
          | (go_simp; done)
      try simp only [Act.put, List.setIfInBounds_toArray, List.set_cons_zero, List.set_cons_succ]
      refine wpAnyT_take (i := 2) (oi := { dst := some 6, op := Op.fieldAddr 78 (Operand.tmp 5) 1, type := 0, pos := "receiver.go:33", after := #[{ on := 1, ground := Ground.data }], guard := none }) (v := .pointer (some ⟨g, 3, none⟩)) rfl (by kernel_rfl) (by kernel_rfl) (by kernel_rfl) (by kernel_rfl) (fun _ _ _ h => h) (Or.inl ⟨by rfl, ?_⟩) hHeld ?_
      · intro w hSw
        obtain ⟨h3, h2, hm⟩ := hSw
        first
          | rfl
          | (go_simp; done)
      try simp only [Act.put, List.setIfInBounds_toArray, List.set_cons_zero, List.set_cons_succ]
      refine wpAnyT_take (i := 3) (oi := { dst := some 7, op := Op.load 76 (Operand.tmp 6), type := 76, pos := "receiver.go:33", after := #[{ on := 2, ground := Ground.data }], guard := none }) (v := .map (some m)) rfl (by kernel_rfl) (by kernel_rfl) (by kernel_rfl) (by kernel_rfl) (fun _ _ _ h => h) (Or.inl ⟨by rfl, ?_⟩) hHeld ?_
      · intro w hSw
        obtain ⟨h3, h2, hm⟩ := hSw
        first
          | rfl
          | (go_simp; done)
      try simp only [Act.put, List.setIfInBounds_toArray, List.set_cons_zero, List.set_cons_succ]
      refine wpAnyT_take (i := 4) (oi := { dst := some 8, op := Op.move (Operand.tmp 0), type := 103, pos := "receiver.go:33", after := #[], guard := none }) (v := .pointer (some ⟨g, 2, none⟩)) rfl (by kernel_rfl) (by kernel_rfl) (by kernel_rfl) (by kernel_rfl) (fun _ _ _ h => h) (Or.inl ⟨by rfl, ?_⟩) hHeld ?_
      · intro w hSw
        obtain ⟨h3, h2, hm⟩ := hSw
        first
          | rfl
          | (go_simp; done)
      try simp only [Act.put, List.setIfInBounds_toArray, List.set_cons_zero, List.set_cons_succ]
      refine wpAnyT_take (i := 5) (oi := { dst := some 9, op := Op.nilCheck (Operand.tmp 8), type := 0, pos := "receiver.go:33", after := #[{ on := 4, ground := Ground.data }], guard := none }) (v := .pointer (some ⟨g, 2, none⟩)) rfl (by kernel_rfl) (by kernel_rfl) (by kernel_rfl) (by kernel_rfl) (fun _ _ _ h => h) (Or.inl ⟨by rfl, ?_⟩) hHeld ?_
      · intro w hSw
        obtain ⟨h3, h2, hm⟩ := hSw
        first
          | rfl
          | (go_simp; done)
      try simp only [Act.put, List.setIfInBounds_toArray, List.set_cons_zero, List.set_cons_succ]
      refine wpAnyT_take (i := 6) (oi := { dst := some 10, op := Op.fieldAddr 78 (Operand.tmp 9) 0, type := 0, pos := "receiver.go:33", after := #[{ on := 5, ground := Ground.data }], guard := none }) (v := .pointer (some ⟨g, 2, none⟩)) rfl (by kernel_rfl) (by kernel_rfl) (by kernel_rfl) (by kernel_rfl) (fun _ _ _ h => h) (Or.inl ⟨by rfl, ?_⟩) hHeld ?_
      · intro w hSw
        obtain ⟨h3, h2, hm⟩ := hSw
        first
          | rfl
          | (go_simp; done)
      try simp only [Act.put, List.setIfInBounds_toArray, List.set_cons_zero, List.set_cons_succ]
      refine wpAnyT_take (i := 7) (oi := { dst := some 11, op := Op.load 3 (Operand.tmp 10), type := 3, pos := "receiver.go:33", after := #[{ on := 6, ground := Ground.data }], guard := none }) (v := .int .i64 a) rfl (by kernel_rfl) (by kernel_rfl) (by kernel_rfl) (by kernel_rfl) (fun _ _ _ h => h) (Or.inl ⟨by rfl, ?_⟩) hHeld ?_
      · intro w hSw
        obtain ⟨h3, h2, hm⟩ := hSw
        first
          | rfl
          | (go_simp; done)
      try simp only [Act.put, List.setIfInBounds_toArray, List.set_cons_zero, List.set_cons_succ]
      refine wpAnyT_take (i := 8) (oi := { dst := some 12, op := Op.lookup 76 (Operand.tmp 7) (Operand.tmp 11) false, type := 32, pos := "receiver.go:33", after := #[{ on := 3, ground := Ground.data }, { on := 7, ground := Ground.data }], guard := none }) (v := (.slice none 0 0)) rfl (by kernel_rfl) (by kernel_rfl) (by kernel_rfl) (by kernel_rfl) (fun _ _ _ h => h) (Or.inl ⟨by rfl, ?_⟩) hHeld ?_
      · intro w hSw
        obtain ⟨h3, h2, hm⟩ := hSw
        have hlk := run_look hm a
        rw [unhide HX, unhide HXV] at hlk
        go_simp
        done
      try simp only [Act.put, List.setIfInBounds_toArray, List.set_cons_zero, List.set_cons_succ]
      refine wpAnyT_take (i := 9) (oi := { dst := some 13, op := Op.binOp BinOp.neq 32 (Operand.tmp 12) (Operand.const (Value.slice none 0 0)) 32, type := 4, pos := "receiver.go:33", after := #[{ on := 8, ground := Ground.data }], guard := none }) (v := .bool false) rfl (by kernel_rfl) (by kernel_rfl) (by kernel_rfl) (by kernel_rfl) (fun _ _ _ h => h) (Or.inl ⟨by rfl, ?_⟩) hHeld ?_
      · intro w hSw
        obtain ⟨h3, h2, hm⟩ := hSw
        first
          | rfl
          | (go_simp; done)
      try simp only [Act.put, List.setIfInBounds_toArray, List.set_cons_zero, List.set_cons_succ]
      refine wpAnyT_done (by kernel_rfl) ?_ _
      have HE := hide (te_none (unhide HI2) (unhide HX))
      clear HI2
      go_wp2_with fail
      go_ret
      exact unhide HE
    | some x =>
      have HX := hide hx
      obtain ⟨a1, c1, e1⟩ := ((unhide HC0).erl x ((unhide HI).sub x (lookE_mem hx).1)).some (unhide HEO x ((unhide HI).sub x (lookE_mem hx).1))
      have HXV : Hid (valE (some x) = .slice (some a1) x.body.length c1) := hide e1
      have HE1 := hide e1
      clear hx e1
      go_wp2_with fail
      refine wp_region_T (S := fun W => W.cell? ⟨g, 3, none⟩ = some (.map (some m)) ∧ W.cell? ⟨g, 2, none⟩ = some (.int .i64 a) ∧ MapIs W m E) (fun i => decide (i < 10)) (by kernel_rfl) ⟨(unhide HI).ch.row.cell 3, (unhide HI).ch.row.cell 2, (unhide HI).ch.map⟩ (fun hHeld => ?_)
      have HI2 := hide ((unhide HI).call (Below.drew (Below.refl _ wr)))
      obtain ⟨wd, hwd⟩ : ∃ z, wr.drew = z := ⟨_, rfl⟩
      rw [hwd] at HI2 hHeld ⊢
      clear hwd HI
      refine wpAnyT_take (i := 0) (oi := { dst := some 4, op := Op.move (Operand.tmp 0), type := 103, pos := "receiver.go:33", after := #[], guard := none }) (v := .pointer (some ⟨g, 2, none⟩)) rfl (by kernel_rfl) (by kernel_rfl) (by kernel_rfl) (by kernel_rfl) (fun _ _ _ h => h) (Or.inl ⟨by rfl, ?_⟩) hHeld ?_
      · intro w hSw
        obtain ⟨h3, h2, hm⟩ := hSw
        first
          | rfl
          | (go_simp; done)
      try simp only [Act.put, List.setIfInBounds_toArray, List.set_cons_zero, List.set_cons_succ]
      refine wpAnyT_take (i := 1) (oi := { dst := some 5, op := Op.nilCheck (Operand.tmp 4), type := 0, pos := "receiver.go:33", after := #[{ on := 0, ground := Ground.data }], guard := none }) (v := .pointer (some ⟨g, 2, none⟩)) rfl (by kernel_rfl) (by kernel_rfl) (by kernel_rfl) (by kernel_rfl) (fun _ _ _ h => h) (Or.inl ⟨by rfl, ?_⟩) hHeld ?_
      · intro w hSw
        obtain ⟨h3, h2, hm⟩ := hSw
        first
          | rfl
          | (go_simp; done)
      try simp only [Act.put, List.setIfInBounds_toArray, List.set_cons_zero, List.set_cons_succ]
      refine wpAnyT_take (i := 2) (oi := { dst := some 6, op := Op.fieldAddr 78 (Operand.tmp 5) 1, type := 0, pos := "receiver.go:33", after := #[{ on := 1, ground := Ground.data }], guard := none }) (v := .pointer (some ⟨g, 3, none⟩)) rfl (by kernel_rfl) (by kernel_rfl) (by kernel_rfl) (by kernel_rfl) (fun _ _ _ h => h) (Or.inl ⟨by rfl, ?_⟩) hHeld ?_
      · intro w hSw
        obtain ⟨h3, h2, hm⟩ := hSw
        first
          | rfl
          | (go_simp; done)
      try simp only [Act.put, List.setIfInBounds_toArray, List.set_cons_zero, List.set_cons_succ]
      refine wpAnyT_take (i := 3) (oi := { dst := some 7, op := Op.load 76 (Operand.tmp 6), type := 76, pos := "receiver.go:33", after := #[{ on := 2, ground := Ground.data }], guard := none }) (v := .map (some m)) rfl (by kernel_rfl) (by kernel_rfl) (by kernel_rfl) (by kernel_rfl) (fun _ _ _ h => h) (Or.inl ⟨by rfl, ?_⟩) hHeld ?_
      · intro w hSw
        obtain ⟨h3, h2, hm⟩ := hSw
        first
          | rfl
          | (go_simp; done)
      try simp only [Act.put, List.setIfInBounds_toArray, List.set_cons_zero, List.set_cons_succ]
      refine wpAnyT_take (i := 4) (oi := { dst := some 8, op := Op.move (Operand.tmp 0), type := 103, pos := "receiver.go:33", after := #[], guard := none }) (v := .pointer (some ⟨g, 2, none⟩)) rfl (by kernel_rfl) (by kernel_rfl) (by kernel_rfl) (by kernel_rfl) (fun _ _ _ h => h) (Or.inl ⟨by rfl, ?_⟩) hHeld ?_
      · intro w hSw
        obtain ⟨h3, h2, hm⟩ := hSw
        first
          | rfl
          | (go_simp; done)
      try simp only [Act.put, List.setIfInBounds_toArray, List.set_cons_zero, List.set_cons_succ]
      refine wpAnyT_take (i := 5) (oi := { dst := some 9, op := Op.nilCheck (Operand.tmp 8), type := 0, pos := "receiver.go:33", after := #[{ on := 4, ground := Ground.data }], guard := none }) (v := .pointer (some ⟨g, 2, none⟩)) rfl (by kernel_rfl) (by kernel_rfl) (by kernel_rfl) (by kernel_rfl) (fun _ _ _ h => h) (Or.inl ⟨by rfl, ?_⟩) hHeld ?_
      · intro w hSw
        obtain ⟨h3, h2, hm⟩ := hSw
        first
          | rfl
          | (go_simp; done)
      try simp only [Act.put, List.setIfInBounds_toArray, List.set_cons_zero, List.set_cons_succ]
      refine wpAnyT_take (i := 6) (oi := { dst := some 10, op := Op.fieldAddr 78 (Operand.tmp 9) 0, type := 0, pos := "receiver.go:33", after := #[{ on := 5, ground := Ground.data }], guard := none }) (v := .pointer (some ⟨g, 2, none⟩)) rfl (by kernel_rfl) (by kernel_rfl) (by kernel_rfl) (by kernel_rfl) (fun _ _ _ h => h) (Or.inl ⟨by rfl, ?_⟩) hHeld ?_
      · intro w hSw
        obtain ⟨h3, h2, hm⟩ := hSw
        first
          | rfl
          | (go_simp; done)
      try simp only [Act.put, List.setIfInBounds_toArray, List.set_cons_zero, List.set_cons_succ]
      refine wpAnyT_take (i := 7) (oi := { dst := some 11, op := Op.load 3 (Operand.tmp 10), type := 3, pos := "receiver.go:33", after := #[{ on := 6, ground := Ground.data }], guard := none }) (v := .int .i64 a) rfl (by kernel_rfl) (by kernel_rfl) (by kernel_rfl) (by kernel_rfl) (fun _ _ _ h => h) (Or.inl ⟨by rfl, ?_⟩) hHeld ?_
      · intro w hSw
        obtain ⟨h3, h2, hm⟩ := hSw
        first
          | rfl
          | (go_simp; done)
      try simp only [Act.put, List.setIfInBounds_toArray, List.set_cons_zero, List.set_cons_succ]
      refine wpAnyT_take (i := 8) (oi := { dst := some 12, op := Op.lookup 76 (Operand.tmp 7) (Operand.tmp 11) false, type := 32, pos := "receiver.go:33", after := #[{ on := 3, ground := Ground.data }, { on := 7, ground := Ground.data }], guard := none }) (v := (.slice (some a1) x.body.length c1)) rfl (by kernel_rfl) (by kernel_rfl) (by kernel_rfl) (by kernel_rfl) (fun _ _ _ h => h) (Or.inl ⟨by rfl, ?_⟩) hHeld ?_
      · intro w hSw
        obtain ⟨h3, h2, hm⟩ := hSw
        have hlk := run_look hm a
        rw [unhide HX, unhide HXV] at hlk
        go_simp
        done
      try simp only [Act.put, List.setIfInBounds_toArray, List.set_cons_zero, List.set_cons_succ]
      refine wpAnyT_take (i := 9) (oi := { dst := some 13, op := Op.binOp BinOp.neq 32 (Operand.tmp 12) (Operand.const (Value.slice none 0 0)) 32, type := 4, pos := "receiver.go:33", after := #[{ on := 8, ground := Ground.data }], guard := none }) (v := .bool true) rfl (by kernel_rfl) (by kernel_rfl) (by kernel_rfl) (by kernel_rfl) (fun _ _ _ h => h) (Or.inl ⟨by rfl, ?_⟩) hHeld ?_
      · intro w hSw
        obtain ⟨h3, h2, hm⟩ := hSw
        first
          | rfl
          | (go_simp; done)
      try simp only [Act.put, List.setIfInBounds_toArray, List.set_cons_zero, List.set_cons_succ]
      refine wpAnyT_done (by kernel_rfl) ?_ _
      clear hHeld
      go_wp2_with fail
      refine wp_region_T (S := fun W => W.cell? ⟨g, 3, none⟩ = some (.map (some m)) ∧ W.cell? ⟨g, 2, none⟩ = some (.int .i64 a) ∧ MapIs W m E) (fun i => decide (i < 12)) (by kernel_rfl) ⟨(unhide HI2).ch.row.cell 3, (unhide HI2).ch.row.cell 2, (unhide HI2).ch.map⟩ (fun hHeld => ?_)
      have HI3 := hide ((unhide HI2).call (Below.drew (Below.refl _ wd)))
      have HO3 : Hid (Only (fun i => B0 ≤ i) wd wd.drew) := hide (Only.of_below (Below.drew (Below.refl _ wd)))
      obtain ⟨we, hwe⟩ : ∃ z, wd.drew = z := ⟨_, rfl⟩
      rw [hwe] at HI3 HO3 hHeld ⊢
      clear hwe
      have HLE : Hid (Lt B0 g m vq (s.withE a E s.owes)) := hide (by rw [← unhide HBW]; exact ⟨(unhide HLT).g, (unhide HLT).m, (unhide HLT).q, (unhide HLT).bod, fun y hy => (unhide HLT).erl y ((unhide HI2).sub y hy)⟩)
      have HNL : Hid (o.length ≤ 100000) := hide (by have := (unhide HI2).len; have := unhide HN; omega)
      refine wpAnyT_take (i := 0) (oi := { dst := some 14, op := Op.move (Operand.tmp 3), type := 40, pos := "receiver.go:34", after := #[], guard := none }) (v := .slice al o.length cl) rfl (by kernel_rfl) (by kernel_rfl) (by kernel_rfl) (by kernel_rfl) (fun _ _ _ h => h) (Or.inl ⟨by rfl, ?_⟩) hHeld ?_
      · intro w hSw
        obtain ⟨h3, h2, hm⟩ := hSw
        first
          | rfl
          | (go_simp; done)
      try simp only [Act.put, List.setIfInBounds_toArray, List.set_cons_zero, List.set_cons_succ]
      refine wpAnyT_take (i := 1) (oi := { dst := some 15, op := Op.move (Operand.tmp 0), type := 103, pos := "receiver.go:34", after := #[], guard := none }) (v := .pointer (some ⟨g, 2, none⟩)) rfl (by kernel_rfl) (by kernel_rfl) (by kernel_rfl) (by kernel_rfl) (fun _ _ _ h => h) (Or.inl ⟨by rfl, ?_⟩) hHeld ?_
      · intro w hSw
        obtain ⟨h3, h2, hm⟩ := hSw
        first
          | rfl
          | (go_simp; done)
      try simp only [Act.put, List.setIfInBounds_toArray, List.set_cons_zero, List.set_cons_succ]
      refine wpAnyT_take (i := 2) (oi := { dst := some 16, op := Op.nilCheck (Operand.tmp 15), type := 0, pos := "receiver.go:34", after := #[{ on := 1, ground := Ground.data }], guard := none }) (v := .pointer (some ⟨g, 2, none⟩)) rfl (by kernel_rfl) (by kernel_rfl) (by kernel_rfl) (by kernel_rfl) (fun _ _ _ h => h) (Or.inl ⟨by rfl, ?_⟩) hHeld ?_
      · intro w hSw
        obtain ⟨h3, h2, hm⟩ := hSw
        first
          | rfl
          | (go_simp; done)
      try simp only [Act.put, List.setIfInBounds_toArray, List.set_cons_zero, List.set_cons_succ]
      refine wpAnyT_take (i := 3) (oi := { dst := some 17, op := Op.fieldAddr 78 (Operand.tmp 16) 1, type := 0, pos := "receiver.go:34", after := #[{ on := 2, ground := Ground.data }], guard := none }) (v := .pointer (some ⟨g, 3, none⟩)) rfl (by kernel_rfl) (by kernel_rfl) (by kernel_rfl) (by kernel_rfl) (fun _ _ _ h => h) (Or.inl ⟨by rfl, ?_⟩) hHeld ?_
      · intro w hSw
        obtain ⟨h3, h2, hm⟩ := hSw
        first
          | rfl
          | (go_simp; done)
      try simp only [Act.put, List.setIfInBounds_toArray, List.set_cons_zero, List.set_cons_succ]
      refine wpAnyT_take (i := 4) (oi := { dst := some 18, op := Op.load 76 (Operand.tmp 17), type := 76, pos := "receiver.go:34", after := #[{ on := 3, ground := Ground.data }], guard := none }) (v := .map (some m)) rfl (by kernel_rfl) (by kernel_rfl) (by kernel_rfl) (by kernel_rfl) (fun _ _ _ h => h) (Or.inl ⟨by rfl, ?_⟩) hHeld ?_
      · intro w hSw
        obtain ⟨h3, h2, hm⟩ := hSw
        first
          | rfl
          | (go_simp; done)
      try simp only [Act.put, List.setIfInBounds_toArray, List.set_cons_zero, List.set_cons_succ]
      refine wpAnyT_take (i := 5) (oi := { dst := some 19, op := Op.move (Operand.tmp 0), type := 103, pos := "receiver.go:34", after := #[], guard := none }) (v := .pointer (some ⟨g, 2, none⟩)) rfl (by kernel_rfl) (by kernel_rfl) (by kernel_rfl) (by kernel_rfl) (fun _ _ _ h => h) (Or.inl ⟨by rfl, ?_⟩) hHeld ?_
      · intro w hSw
        obtain ⟨h3, h2, hm⟩ := hSw
        first
          | rfl
          | (go_simp; done)
      try simp only [Act.put, List.setIfInBounds_toArray, List.set_cons_zero, List.set_cons_succ]
      refine wpAnyT_take (i := 6) (oi := { dst := some 20, op := Op.nilCheck (Operand.tmp 19), type := 0, pos := "receiver.go:34", after := #[{ on := 5, ground := Ground.data }], guard := none }) (v := .pointer (some ⟨g, 2, none⟩)) rfl (by kernel_rfl) (by kernel_rfl) (by kernel_rfl) (by kernel_rfl) (fun _ _ _ h => h) (Or.inl ⟨by rfl, ?_⟩) hHeld ?_
      · intro w hSw
        obtain ⟨h3, h2, hm⟩ := hSw
        first
          | rfl
          | (go_simp; done)
      try simp only [Act.put, List.setIfInBounds_toArray, List.set_cons_zero, List.set_cons_succ]
      refine wpAnyT_take (i := 7) (oi := { dst := some 21, op := Op.fieldAddr 78 (Operand.tmp 20) 0, type := 0, pos := "receiver.go:34", after := #[{ on := 6, ground := Ground.data }], guard := none }) (v := .pointer (some ⟨g, 2, none⟩)) rfl (by kernel_rfl) (by kernel_rfl) (by kernel_rfl) (by kernel_rfl) (fun _ _ _ h => h) (Or.inl ⟨by rfl, ?_⟩) hHeld ?_
      · intro w hSw
        obtain ⟨h3, h2, hm⟩ := hSw
        first
          | rfl
          | (go_simp; done)
      try simp only [Act.put, List.setIfInBounds_toArray, List.set_cons_zero, List.set_cons_succ]
      refine wpAnyT_take (i := 8) (oi := { dst := some 22, op := Op.load 3 (Operand.tmp 21), type := 3, pos := "receiver.go:34", after := #[{ on := 7, ground := Ground.data }], guard := none }) (v := .int .i64 a) rfl (by kernel_rfl) (by kernel_rfl) (by kernel_rfl) (by kernel_rfl) (fun _ _ _ h => h) (Or.inl ⟨by rfl, ?_⟩) hHeld ?_
      · intro w hSw
        obtain ⟨h3, h2, hm⟩ := hSw
        first
          | rfl
          | (go_simp; done)
      try simp only [Act.put, List.setIfInBounds_toArray, List.set_cons_zero, List.set_cons_succ]
      refine wpAnyT_take (i := 9) (oi := { dst := some 23, op := Op.lookup 76 (Operand.tmp 18) (Operand.tmp 22) false, type := 32, pos := "receiver.go:34", after := #[{ on := 4, ground := Ground.data }, { on := 8, ground := Ground.data }], guard := none }) (v := .slice (some a1) x.body.length c1) rfl (by kernel_rfl) (by kernel_rfl) (by kernel_rfl) (by kernel_rfl) (fun _ _ _ h => h) (Or.inl ⟨by rfl, ?_⟩) hHeld ?_
      · intro w hSw
        obtain ⟨h3, h2, hm⟩ := hSw
        have hlk := run_look hm a
        rw [unhide HX, unhide HXV] at hlk
        go_simp
        done
      try simp only [Act.put, List.setIfInBounds_toArray, List.set_cons_zero, List.set_cons_succ]
      refine wpAnyT_one (i := 10) (o := { dst := some 24, op := Op.buildSlice 40 1 #[(0, Operand.tmp 23)], type := 40, pos := "receiver.go:34", after := #[{ on := 9, ground := Ground.data }], guard := none }) (by kernel_rfl) rfl (fun K hK => ?_)
      go_simp
      have b1 : Below we.heap.size we (we.alloc (.cells #[.slice (some a1) x.body.length c1] 32)) := (Below.refl _ _).alloc (Nat.le_refl _) _
      have HI4 := hide ((unhide HI3).call b1)
      have HO4 : Hid (Only (fun i => B0 ≤ i) wd (we.alloc (.cells #[.slice (some a1) x.body.length c1] 32))) := hide ((unhide HO3).trans (Only.of_below b1))
      have HQ := hide (RowAt.new we 32 [.slice (some a1) x.body.length c1])
      obtain ⟨w1, hw1⟩ : ∃ z, (we.alloc (.cells #[.slice (some a1) x.body.length c1] 32)) = z := ⟨_, rfl⟩
      obtain ⟨q9, hq9⟩ : ∃ z, we.heap.size = z := ⟨_, rfl⟩
      rw [hw1] at HI4 HO4 HQ ⊢
      rw [hq9] at HQ ⊢
      clear hw1 hq9 b1 HI3 HO3 hHeld
      have hS1 := And.intro ((unhide HI4).ch.row.cell 3) (And.intro ((unhide HI4).ch.row.cell 2) (unhide HI4).ch.map)
      refine hK.out _ _ (fun _ => hS1) ?_
      clear hK K
      try simp only [Act.put, List.setIfInBounds_toArray, List.set_cons_zero, List.set_cons_succ]
      refine wpAnyT_one (i := 11) (o := { dst := some 25, op := Op.call { callee := Callee.builtin Builtin.append, args := #[Operand.tmp 14, Operand.tmp 24], argTypes := #[40, 40] }, type := 40, pos := "receiver.go:34", after := #[{ on := 0, ground := Ground.data }, { on := 10, ground := Ground.data }], guard := none }) (by kernel_rfl) rfl (fun K hK => ?_)
      refine wp_app (Operand.tmp 14) (Operand.tmp 24) 40 32 _ 1 24 Try.underlying40 infoSl (by simp [Value.cells]) (by decide) (by decide) rfl B0 (.slice al o.length cl) o.length (o.map Er.v) [.slice (some a1) x.body.length c1] q9 1 rfl (by have := (unhide HI4).own; rw [unhide HBW] at this; exact this) (by have := unhide HNL; omega) (by have := (unhide HI4).tu.1.size; rw [unhide HBW] at this; exact this) rfl rfl (fun j u hu => by rw [(unhide HQ).cell]; exact hu) (fun u hu => by obtain rfl := List.mem_singleton.1 hu; rfl) (fun j9 cap w3 hv3 ho3 hk3 => ?_)
      have ho4 : Only (fun i => B0 ≤ i) w1 w3 := ho3.mono (fun i hi => by have := ((unhide HI4).own.lt i hi).1; have := unhide HBW; omega)
      have HO5 := hide ((unhide HO4).trans ho4)
      have HC5 := hide ((unhide HI4).ch.hi (unhide HLE) ho4)
      have HL5 : Hid (w3.ownsRow B0 32 1 (.slice (some ⟨j9, 0, none⟩) (o.length + 1) cap) (o.length + 1) (o.map Er.v ++ [x.v])) := hide (by rw [unhide HE1]; exact hv3)
      have hS3 := And.intro ((unhide HC5).row.cell 3) (And.intro ((unhide HC5).row.cell 2) (unhide HC5).map)
      clear hv3 ho3 hk3 ho4 HI4 HO4 HQ hS1
      refine hK.out _ _ (fun _ => hS3) ?_
      clear hK K
      clear hS3
      try simp only [Act.put, List.setIfInBounds_toArray, List.set_cons_zero, List.set_cons_succ]
      refine wpAnyT_pure (i := 12) (oi := { dst := some 3, op := Op.assign (Operand.tmp 25), type := 40, pos := "receiver.go:34", after := #[{ on := 11, ground := Ground.data }, { on := 11, ground := Ground.chain }, { on := 0, ground := Ground.phase }, { on := 1, ground := Ground.phase }, { on := 2, ground := Ground.phase }, { on := 3, ground := Ground.phase }, { on := 4, ground := Ground.phase }, { on := 5, ground := Ground.phase }, { on := 6, ground := Ground.phase }, { on := 7, ground := Ground.phase }, { on := 8, ground := Ground.phase }, { on := 9, ground := Ground.phase }, { on := 10, ground := Ground.phase }, { on := 11, ground := Ground.phase }], guard := none }) (v := .slice (some ⟨j9, 0, none⟩) (o.length + 1) cap) rfl (by kernel_rfl) (by kernel_rfl) (by kernel_rfl) rfl (fun _ _ _ h => h) (Or.inl ⟨by rfl, ?_⟩) ?_
      · intro w hSw
        first
          | rfl
          | (go_simp; done)
      try simp only [Act.put, List.setIfInBounds_toArray, List.set_cons_zero, List.set_cons_succ]
      refine wpAnyT_done (by kernel_rfl) ?_ _
      go_wp2_with fail
      refine wp_region_T (S := fun W => W.cell? ⟨g, 3, none⟩ = some (.map (some m)) ∧ W.cell? ⟨g, 2, none⟩ = some (.int .i64 a)) (fun i => decide (i < 9)) (by kernel_rfl) ⟨(unhide HC5).row.cell 3, (unhide HC5).row.cell 2⟩ (fun hHeld => ?_)
      have bd9 : Below w3.heap.size w3 w3.drew := Below.drew (Below.refl _ w3)
      have HC6 := hide ((unhide HC5).call bd9)
      have HO6 := hide ((unhide HO5).trans (Only.of_below bd9))
      have HL6 := hide (own_call (unhide HL5) bd9)
      obtain ⟨w4, hw4⟩ : ∃ z, w3.drew = z := ⟨_, rfl⟩
      rw [hw4] at HC6 HO6 HL6 hHeld ⊢
      clear hw4 bd9 HC5 HO5 HL5
      refine wpAnyT_take (i := 0) (oi := { dst := some 26, op := Op.move (Operand.tmp 0), type := 103, pos := "receiver.go:35", after := #[], guard := none }) (v := .pointer (some ⟨g, 2, none⟩)) rfl (by kernel_rfl) (by kernel_rfl) (by kernel_rfl) (by kernel_rfl) (fun _ _ _ h => h) (Or.inl ⟨by rfl, ?_⟩) hHeld ?_
      · intro w hSw
        obtain ⟨h3, h2⟩ := hSw
        first
          | rfl
          | (go_simp; done)
      try simp only [Act.put, List.setIfInBounds_toArray, List.set_cons_zero, List.set_cons_succ]
      refine wpAnyT_take (i := 1) (oi := { dst := some 27, op := Op.nilCheck (Operand.tmp 26), type := 0, pos := "receiver.go:35", after := #[{ on := 0, ground := Ground.data }], guard := none }) (v := .pointer (some ⟨g, 2, none⟩)) rfl (by kernel_rfl) (by kernel_rfl) (by kernel_rfl) (by kernel_rfl) (fun _ _ _ h => h) (Or.inl ⟨by rfl, ?_⟩) hHeld ?_
      · intro w hSw
        obtain ⟨h3, h2⟩ := hSw
        first
          | rfl
          | (go_simp; done)
      try simp only [Act.put, List.setIfInBounds_toArray, List.set_cons_zero, List.set_cons_succ]
      refine wpAnyT_take (i := 2) (oi := { dst := some 28, op := Op.fieldAddr 78 (Operand.tmp 27) 1, type := 0, pos := "receiver.go:35", after := #[{ on := 1, ground := Ground.data }], guard := none }) (v := .pointer (some ⟨g, 3, none⟩)) rfl (by kernel_rfl) (by kernel_rfl) (by kernel_rfl) (by kernel_rfl) (fun _ _ _ h => h) (Or.inl ⟨by rfl, ?_⟩) hHeld ?_
      · intro w hSw
        obtain ⟨h3, h2⟩ := hSw
        first
          | rfl
          | (go_simp; done)
      try simp only [Act.put, List.setIfInBounds_toArray, List.set_cons_zero, List.set_cons_succ]
      refine wpAnyT_take (i := 3) (oi := { dst := some 29, op := Op.load 76 (Operand.tmp 28), type := 76, pos := "receiver.go:35", after := #[{ on := 2, ground := Ground.data }], guard := none }) (v := .map (some m)) rfl (by kernel_rfl) (by kernel_rfl) (by kernel_rfl) (by kernel_rfl) (fun _ _ _ h => h) (Or.inl ⟨by rfl, ?_⟩) hHeld ?_
      · intro w hSw
        obtain ⟨h3, h2⟩ := hSw
        first
          | rfl
          | (go_simp; done)
      try simp only [Act.put, List.setIfInBounds_toArray, List.set_cons_zero, List.set_cons_succ]
      refine wpAnyT_take (i := 4) (oi := { dst := some 30, op := Op.move (Operand.tmp 0), type := 103, pos := "receiver.go:35", after := #[], guard := none }) (v := .pointer (some ⟨g, 2, none⟩)) rfl (by kernel_rfl) (by kernel_rfl) (by kernel_rfl) (by kernel_rfl) (fun _ _ _ h => h) (Or.inl ⟨by rfl, ?_⟩) hHeld ?_
      · intro w hSw
        obtain ⟨h3, h2⟩ := hSw
        first
          | rfl
          | (go_simp; done)
      try simp only [Act.put, List.setIfInBounds_toArray, List.set_cons_zero, List.set_cons_succ]
      refine wpAnyT_take (i := 5) (oi := { dst := some 31, op := Op.nilCheck (Operand.tmp 30), type := 0, pos := "receiver.go:35", after := #[{ on := 4, ground := Ground.data }], guard := none }) (v := .pointer (some ⟨g, 2, none⟩)) rfl (by kernel_rfl) (by kernel_rfl) (by kernel_rfl) (by kernel_rfl) (fun _ _ _ h => h) (Or.inl ⟨by rfl, ?_⟩) hHeld ?_
      · intro w hSw
        obtain ⟨h3, h2⟩ := hSw
        first
          | rfl
          | (go_simp; done)
      try simp only [Act.put, List.setIfInBounds_toArray, List.set_cons_zero, List.set_cons_succ]
      refine wpAnyT_take (i := 6) (oi := { dst := some 32, op := Op.fieldAddr 78 (Operand.tmp 31) 0, type := 0, pos := "receiver.go:35", after := #[{ on := 5, ground := Ground.data }], guard := none }) (v := .pointer (some ⟨g, 2, none⟩)) rfl (by kernel_rfl) (by kernel_rfl) (by kernel_rfl) (by kernel_rfl) (fun _ _ _ h => h) (Or.inl ⟨by rfl, ?_⟩) hHeld ?_
      · intro w hSw
        obtain ⟨h3, h2⟩ := hSw
        first
          | rfl
          | (go_simp; done)
      try simp only [Act.put, List.setIfInBounds_toArray, List.set_cons_zero, List.set_cons_succ]
      refine wpAnyT_take (i := 7) (oi := { dst := some 33, op := Op.load 3 (Operand.tmp 32), type := 3, pos := "receiver.go:35", after := #[{ on := 6, ground := Ground.data }], guard := none }) (v := .int .i64 a) rfl (by kernel_rfl) (by kernel_rfl) (by kernel_rfl) (by kernel_rfl) (fun _ _ _ h => h) (Or.inl ⟨by rfl, ?_⟩) hHeld ?_
      · intro w hSw
        obtain ⟨h3, h2⟩ := hSw
        first
          | rfl
          | (go_simp; done)
      try simp only [Act.put, List.setIfInBounds_toArray, List.set_cons_zero, List.set_cons_succ]
      refine wpAnyT_one (i := 8) (o := { dst := none, op := Op.call { callee := Callee.builtin Builtin.delete, args := #[Operand.tmp 29, Operand.tmp 33], argTypes := #[76, 3] }, type := 0, pos := "receiver.go:35", after := #[{ on := 3, ground := Ground.data }, { on := 7, ground := Ground.data }], guard := none }) (by kernel_rfl) rfl (fun K hK => ?_)
      obtain ⟨w5, hr5, hm5, ho5⟩ := run_drop (unhide HC6).map a 0
      go_simp
      have HN9 := hide (te_next (unhide HI2) (unhide HX) (unhide HLT) (by rw [unhide HBW]; exact unhide HO6) (by rw [unhide HBW]; exact unhide HL6) ho5 hm5)
      have k2 : w5.cell? ⟨g, 2, none⟩ = some (.int .i64 a) := ho5.cell (row_map (unhide HC6).row (unhide HC6).map) ((unhide HC6).row.cell 2)
      have HR9 := hide ((unhide HC6).row.only ho5 (row_map (unhide HC6).row (unhide HC6).map))
      have hS5 := And.intro ((unhide HR9).cell 3) ((unhide HR9).cell 2)
      clear hm5 ho5 HC6 HO6 HL6
      refine hK.out _ _ (fun _ => hS5) ?_
      clear hK K
      clear hS5 hr5
      try simp only [Act.put, List.setIfInBounds_toArray, List.set_cons_zero, List.set_cons_succ]
      refine wpAnyT_done (by kernel_rfl) ?_ _
      have f2 : w5.frozen? ⟨g, 2, none⟩ = false := (unhide HR9).frozen 2
      have ha0 : 0 < a := by have := (unhide HI2).a1; have := unhide HWN; omega
      have ha1 : a ≤ 2305843009214693952 := by have := (unhide HI2).a1; have := unhide HWN; have := unhide HNL; omega
      have hoN : o.length < N := by have := (unhide HI2).len; have := unhide HN; have := lookE_erase (unhide HX); omega
      clear hHeld HI2 HR9 HX
      go_wp2_with fail
      go_roundw
      case rel => exact ⟨_, _, _, HN9⟩
      case measure => simp only [lenV]; omega
end Go.Proofs.Ytmkpphkdaiienaa
