/- A frame is taken: Take. -/
import Derived.Test.YtmkpphkdaiienaaCTe
namespace Go.Proofs.Ytmkpphkdaiienaa
set_option linter.unusedVariables false
set_option linter.unusedSimpArgs false
open Go.ChangeShapes Go.WideShapes Go.ChangeAt Go.RowKit Go.Joins Go.Deep

def takeE (s : CS) (c q a : Int) (n : Nat) : Int := if c ≠ s.conn then 130 else if q < 0 ∨ a < 0 ∨ ¬ (q = 0 ↔ n = 0) then 120 else 0
def ackS (s : CS) (a : Int) : CS := s.withQ (s.q.drop (ackN a s.q))
def toldS (s : CS) : CS := s.withE (tellE s.early.length s.want s.early).2.1 (tellE s.early.length s.want s.early).2.2 s.owes
def takeS (s : CS) (c q a : Int) (b : List Nat) (v : Value) : CS := if takeE s c q a b.length ≠ 0 then s else if q = 0 then ackS s a else toldS (keepS (ackS s a) q v b)
def takeO (s : CS) (c q a : Int) (b : List Nat) (v : Value) : List Er := if takeE s c q a b.length ≠ 0 then [] else if q = 0 then [] else (tellE (keepS (ackS s a) q v b).early.length (keepS (ackS s a) q v b).want (keepS (ackS s a) q v b).early).1
structure TakeI (w w' : World) (B g m : Nat) (vq : Value) (s : CS) (c q a : Int) (b : List Nat) (l v vq' : Value) : Prop where
  ch : Ch w' B g m vq' (takeS s c q a b v)
  tu : Turn w w' g m vq vq'
  own : w'.ownsRow w.heap.size 32 1 l (takeO s c q a b v).length ((takeO s c q a b v).map Er.v)
  bod : ∀ x ∈ takeO s c q a b v, Own w' x.v x.body
def TakeR (B g m : Nat) (vq : Value) (s : CS) (c q a : Int) (b : List Nat) (w : World) (r : Ending) (w' : World) : Prop := ∃ l v vq', r = .returned (.tuple #[l, .int .i64 (takeE s c q a b.length)]) ∧ TakeI w w' B g m vq s c q a b l v vq'
theorem TakeR.no {B g m : Nat} {vq : Value} {s : CS} {c q a e : Int} {b : List Nat} {w w' : World} (h : Ch w B g m vq s) (hb : Below w.heap.size w w') (he : takeE s c q a b.length = e) (h0 : e ≠ 0) : TakeR B g m vq s c q a b w (.returned (.tuple #[.slice none 0 0, .int .i64 e])) w' := by
  have h1 : takeE s c q a b.length ≠ 0 := by rw [he]; exact h0
  have h2 : takeO s c q a b (.slice none 0 0) = [] := by unfold takeO; rw [if_pos h1]
  refine ⟨_, .slice none 0 0, vq, by rw [he], ⟨by unfold takeS; rw [if_pos h1]; exact h.call hb, Turn.below hb, ?_, ?_⟩⟩
  · rw [h2]; exact ⟨rfl, .inl ⟨rfl, rfl⟩⟩
  · rw [h2]; exact fun x hx => by cases hx
theorem Ch.keepRow {w w' : World} {B g m gb : Nat} {vq : Value} {s : CS} {t : TypeId} {cs : List Value} (h : Ch w B g m vq s) (hr : RowAt w gb t cs) (h1 : t ≠ 80) (h2 : t ≠ 96) (ho : Only (fp g m vq) w w') : RowAt w' gb t cs := by
  refine hr.only ho ?_
  rintro (e | e | e)
  · exact rtag hr h.row h1 e
  · exact row_map hr h.map e
  · exact tag_ne h.own hr (Ne.symm h2) e
theorem EOk.keep {s : CS} {k : Int} {v : Value} {b : List Nat} (h : EOk s) (hb : b ≠ []) : EOk (keepS s k v b) := by
  unfold keepS
  split
  · exact h
  · intro x hx
    rcases List.mem_append.1 hx with hx | hx
    · exact h x hx
    · obtain rfl := List.mem_singleton.1 hx
      exact hb
theorem keepS_want (s : CS) (k : Int) (v : Value) (b : List Nat) : (keepS s k v b).want = s.want := by unfold keepS; split <;> rfl
theorem keepS_len (s : CS) (k : Int) (v : Value) (b : List Nat) : (keepS s k v b).early.length ≤ s.early.length + 1 := by unfold keepS; split <;> simp [CS.withE]
theorem take_ack {B g m : Nat} {vq vq' : Value} {s : CS} {c a : Int} {b : List Nat} {w w2 : World} (he : takeE s c 0 a b.length = 0) (h2 : Ch w2 B g m vq' (ackS s a)) (t2 : Turn w w2 g m vq vq') : TakeR B g m vq s c 0 a b w (.returned (.tuple #[.slice none 0 0, .int .i64 0])) w2 := by
  have h1 : ¬ takeE s c 0 a b.length ≠ 0 := by rw [he]; decide
  have h3 : takeO s c 0 a b (.slice none 0 0) = [] := by unfold takeO; rw [if_neg h1, if_pos rfl]
  refine ⟨_, .slice none 0 0, vq', by rw [he], ⟨by unfold takeS; rw [if_neg h1, if_pos rfl]; exact h2, t2, ?_, ?_⟩⟩
  · rw [h3]; exact ⟨rfl, .inl ⟨rfl, rfl⟩⟩
  · rw [h3]; exact fun x hx => by cases hx
theorem TellR.shape {B g m : Nat} {vq : Value} {s : CS} {w w' : World} {r : Ending} (h : TellR B g m vq s w r w') : ∃ l, r = .returned l ∧ TellR B g m vq s w (.returned l) w' := by
  obtain ⟨o, a, E, l, rfl, h⟩ := h
  exact ⟨l, rfl, o, a, E, l, rfl, h⟩
theorem take_tell {B g m : Nat} {vq vq' v l : Value} {s : CS} {c q a : Int} {b : List Nat} {w w3 w4 : World} (he : takeE s c q a b.length = 0) (hq : q ≠ 0) (h3 : Ch w3 B g m vq' (keepS (ackS s a) q v b)) (t3 : Turn w w3 g m vq vq') (h4 : TellR B g m vq' (keepS (ackS s a) q v b) w3 (.returned l) w4) :
    TakeR B g m vq s c q a b w (.returned (.tuple #[l, .int .i64 0])) w4 := by
  have h1 : ¬ takeE s c q a b.length ≠ 0 := by rw [he]; decide
  obtain ⟨o, a', E, l', e1, e2, i⟩ := h4
  injection e1 with e1
  subst e1
  have h5 : takeO s c q a b v = o := by unfold takeO; rw [if_neg h1, if_neg hq, e2]
  have hsz := t3.1.size
  refine ⟨l, v, vq', by rw [he], ⟨?_, t3.trans i.tu, ?_, ?_⟩⟩
  · unfold takeS
    rw [if_neg h1, if_neg hq]
    unfold toldS
    rw [e2]
    exact i.ch
  · rw [h5]
    exact ⟨i.own.1, i.own.2.imp id (fun ⟨g, c, cur, e1, e2, e3⟩ => ⟨g, c, cur, e1, Nat.le_trans hsz e2, e3⟩)⟩
  · rw [h5]
    exact fun x hx => h3.keep i.tu.1 (h3.erl x (i.osub x hx))
set_option maxRecDepth 100000 in
set_option maxHeartbeats 4000000 in
theorem take_any (B g m : Nat) (vq vb : Value) (s : CS) (c q a : Int) (b : List Nat) (w : World) (h : Ch w B g m vq s) (hk : s.Ok) (hE : EOk s) (hv : Vis w B vb b) (hbl : b.length ≤ 1000000000) (hq1 : q ≤ 9223372036854775807) (hel : s.early.length ≤ 99999) :
    Calls Try.prog 17 #[.pointer (some ⟨g, 0, none⟩), frV c q a vb] w fun r w' => TakeR B g m vq s c q a b w r w' := by
  obtain ⟨ab, cb, hvb⟩ := byt_shape hv.1
  subst hvb
  have hb : Below w.heap.size w (w.alloc (.cells #[.int .i64 c, .int .i64 q, .int .i64 a, .slice ab b.length cb] 34)) := (Below.refl _ _).alloc (Nat.le_refl _) _
  have K := hide (made_ok g s.conn (w.alloc (.cells #[.int .i64 c, .int .i64 q, .int .i64 a, .slice ab b.length cb] 34)) ((h.call hb).row.cell 5) hk.c)
  have HC := hide (h.call hb)
  have HV := hide (hv.call hb)
  have HBX := hide (RowAt.new w 34 [.int .i64 c, .int .i64 q, .int .i64 a, .slice ab b.length cb])
  have HB0 := hide hb
  have HH := hide h
  have HOK := hide hk
  have HEO := hide hE
  have HEL := hide hel
  obtain ⟨gb, hgb⟩ : ∃ z, w.heap.size = z := ⟨_, rfl⟩
  have HGB := hide hgb
  obtain ⟨cn, hcn⟩ : ∃ z, s.conn = z := ⟨_, rfl⟩
  have HCN := hide hcn
  obtain ⟨n, hn⟩ : ∃ z, b.length = z := ⟨_, rfl⟩
  have HN := hide hn
  clear h hk hE hel hv hb hgb hcn hn
  unfold frV
  by_cases g1 : c = cn
  rotate_left
  · have g1b : (c != cn) = true := by simp [g1]
    have HE1 : Hid (takeE s c q a b.length = 130) := hide (by unfold takeE; rw [if_pos (by rw [unhide HCN]; exact g1)])
    clear g1
    go_enter Try.func17, Try.ntmps17
    go_wp2_with fail
    refine Calls.mono (unhide K) ?_
    rintro r w' ⟨rfl, rfl⟩
    clear K
    go_wp2_with fail
    refine wp_region_T (S := fun W => W.cell? ⟨gb, 0, none⟩ = some (.int .i64 c) ∧ W.cell? ⟨g, 5, none⟩ = some (.int .i64 cn)) (fun i => decide (i < 8)) (by kernel_rfl) (by rw [← unhide HGB, ← unhide HCN]; exact ⟨(unhide HBX).cell 0, (unhide HC).row.cell 5⟩) (fun hHeld => ?_)
    have bd : Below (w.alloc (.cells #[.int .i64 c, .int .i64 q, .int .i64 a, .slice ab b.length cb] 34)).heap.size (w.alloc (.cells #[.int .i64 c, .int .i64 q, .int .i64 a, .slice ab b.length cb] 34)) (w.alloc (.cells #[.int .i64 c, .int .i64 q, .int .i64 a, .slice ab b.length cb] 34)).drew := Below.drew (Below.refl _ _)
    have HC1 := hide ((unhide HC).call bd)
    have HV1 := hide ((unhide HV).call bd)
    have HX1 := hide ((unhide HBX).drew)
    have HB1 : Hid (Below w.heap.size w (w.alloc (.cells #[.int .i64 c, .int .i64 q, .int .i64 a, .slice ab b.length cb] 34)).drew) := hide ((unhide HB0).trans (bd.mono (unhide HB0).size))
    rw [unhide HGB] at HX1
    obtain ⟨wd, hwd⟩ : ∃ z, (w.alloc (.cells #[.int .i64 c, .int .i64 q, .int .i64 a, .slice ab b.length cb] 34)).drew = z := ⟨_, rfl⟩
    rw [hwd] at HC1 HV1 HX1 HB1 hHeld ⊢
    rw [unhide HGB]
    clear hwd bd HC HV HBX HB0
    refine wpAnyT_take (i := 0) (oi := { dst := some 11, op := Op.fieldAddr 34 (Operand.tmp 3) 0, type := 0, pos := "channel.go:75", after := #[], guard := none }) (v := .pointer (some ⟨gb, 0, none⟩)) rfl (by kernel_rfl) (by kernel_rfl) (by kernel_rfl) (by kernel_rfl) (fun _ _ _ h => h) (Or.inl ⟨by rfl, ?_⟩) hHeld ?_
    · intro w hSw
      obtain ⟨h0, h5⟩ := hSw
      first
        | rfl
        | (go_simp; done)
    try simp only [Act.put, List.setIfInBounds_toArray, List.set_cons_zero, List.set_cons_succ]
    refine wpAnyT_take (i := 1) (oi := { dst := some 12, op := Op.load 3 (Operand.tmp 11), type := 3, pos := "channel.go:75", after := #[{ on := 0, ground := Ground.data }], guard := none }) (v := .int .i64 c) rfl (by kernel_rfl) (by kernel_rfl) (by kernel_rfl) (by kernel_rfl) (fun _ _ _ h => h) (Or.inl ⟨by rfl, ?_⟩) hHeld ?_
    · intro w hSw
      obtain ⟨h0, h5⟩ := hSw
      first
        | rfl
        | (go_simp; done)
    try simp only [Act.put, List.setIfInBounds_toArray, List.set_cons_zero, List.set_cons_succ]
    refine wpAnyT_take (i := 2) (oi := { dst := some 13, op := Op.move (Operand.tmp 0), type := 23, pos := "channel.go:75", after := #[], guard := none }) (v := .pointer (some ⟨g, 0, none⟩)) rfl (by kernel_rfl) (by kernel_rfl) (by kernel_rfl) (by kernel_rfl) (fun _ _ _ h => h) (Or.inl ⟨by rfl, ?_⟩) hHeld ?_
    · intro w hSw
      obtain ⟨h0, h5⟩ := hSw
      first
        | rfl
        | (go_simp; done)
    try simp only [Act.put, List.setIfInBounds_toArray, List.set_cons_zero, List.set_cons_succ]
    refine wpAnyT_take (i := 3) (oi := { dst := some 14, op := Op.nilCheck (Operand.tmp 13), type := 0, pos := "channel.go:75", after := #[{ on := 2, ground := Ground.data }], guard := none }) (v := .pointer (some ⟨g, 0, none⟩)) rfl (by kernel_rfl) (by kernel_rfl) (by kernel_rfl) (by kernel_rfl) (fun _ _ _ h => h) (Or.inl ⟨by rfl, ?_⟩) hHeld ?_
    · intro w hSw
      obtain ⟨h0, h5⟩ := hSw
      first
        | rfl
        | (go_simp; done)
    try simp only [Act.put, List.setIfInBounds_toArray, List.set_cons_zero, List.set_cons_succ]
    refine wpAnyT_take (i := 4) (oi := { dst := some 15, op := Op.fieldAddr 80 (Operand.tmp 14) 2, type := 0, pos := "channel.go:75", after := #[{ on := 3, ground := Ground.data }], guard := none }) (v := .pointer (some ⟨g, 5, none⟩)) rfl (by kernel_rfl) (by kernel_rfl) (by kernel_rfl) (by kernel_rfl) (fun _ _ _ h => h) (Or.inl ⟨by rfl, ?_⟩) hHeld ?_
    · intro w hSw
      obtain ⟨h0, h5⟩ := hSw
      first
        | rfl
        | (go_simp; done)
    try simp only [Act.put, List.setIfInBounds_toArray, List.set_cons_zero, List.set_cons_succ]
    refine wpAnyT_take (i := 5) (oi := { dst := some 16, op := Op.load 3 (Operand.tmp 15), type := 3, pos := "channel.go:75", after := #[{ on := 4, ground := Ground.data }], guard := none }) (v := .int .i64 cn) rfl (by kernel_rfl) (by kernel_rfl) (by kernel_rfl) (by kernel_rfl) (fun _ _ _ h => h) (Or.inl ⟨by rfl, ?_⟩) hHeld ?_
    · intro w hSw
      obtain ⟨h0, h5⟩ := hSw
      first
        | rfl
        | (go_simp; done)
    try simp only [Act.put, List.setIfInBounds_toArray, List.set_cons_zero, List.set_cons_succ]
    refine wpAnyT_take (i := 6) (oi := { dst := some 17, op := Op.binOp BinOp.neq 3 (Operand.tmp 12) (Operand.tmp 16) 3, type := 4, pos := "channel.go:75", after := #[{ on := 1, ground := Ground.data }, { on := 5, ground := Ground.data }], guard := none }) (v := .bool true) rfl (by kernel_rfl) (by kernel_rfl) (by kernel_rfl) (by kernel_rfl) (fun _ _ _ h => h) (Or.inl ⟨by rfl, ?_⟩) hHeld ?_
    · intro w hSw
      obtain ⟨h0, h5⟩ := hSw
      first
        | rfl
        | (go_simp; done)
    try simp only [Act.put, List.setIfInBounds_toArray, List.set_cons_zero, List.set_cons_succ]
    refine wpAnyT_take (i := 7) (oi := { dst := some 10, op := Op.assign (Operand.tmp 17), type := 4, pos := "channel.go:75", after := #[{ on := 6, ground := Ground.data }], guard := none }) (v := .bool true) rfl (by kernel_rfl) (by kernel_rfl) (by kernel_rfl) (by kernel_rfl) (fun _ _ _ h => h) (Or.inl ⟨by rfl, ?_⟩) hHeld ?_
    · intro w hSw
      obtain ⟨h0, h5⟩ := hSw
      first
        | rfl
        | (go_simp; done)
    try simp only [Act.put, List.setIfInBounds_toArray, List.set_cons_zero, List.set_cons_succ]
    refine wpAnyT_done (by kernel_rfl) ?_ _
    have x0 : wd.cell? ⟨gb, 0, none⟩ = some (.int .i64 c) := (unhide HX1).cell 0
    have x1 : wd.cell? ⟨gb, 1, none⟩ = some (.int .i64 q) := (unhide HX1).cell 1
    have x2 : wd.cell? ⟨gb, 2, none⟩ = some (.int .i64 a) := (unhide HX1).cell 2
    have x3 : wd.cell? ⟨gb, 3, none⟩ = some (.slice ab b.length cb) := (unhide HX1).cell 3
    have HR := hide (TakeR.no (w' := wd) (c := c) (q := q) (a := a) (b := b) (unhide HH) (unhide HB1) (show takeE s c q a b.length = 130 from unhide HE1) (by decide))
    go_wp2_with fail
    go_ret2
    exact unhide HR
  have g1b : (c != cn) = false := by simp [g1]
  have HCC : Hid (¬ c ≠ s.conn) := hide (by rw [unhide HCN]; exact fun h => h g1)
  clear g1
  by_cases g2 : q < 0
  · have HE1 : Hid (takeE s c q a b.length = 120) := hide (by unfold takeE; rw [if_neg (unhide HCC), if_pos (.inl g2)])
    go_enter Try.func17, Try.ntmps17
    go_wp2_with fail
    refine Calls.mono (unhide K) ?_
    rintro r w' ⟨rfl, rfl⟩
    clear K
    go_wp2_with fail
    refine wp_region_T (S := fun W => W.cell? ⟨gb, 0, none⟩ = some (.int .i64 c) ∧ W.cell? ⟨g, 5, none⟩ = some (.int .i64 cn)) (fun i => decide (i < 8)) (by kernel_rfl) (by rw [← unhide HGB, ← unhide HCN]; exact ⟨(unhide HBX).cell 0, (unhide HC).row.cell 5⟩) (fun hHeld => ?_)
    have bd : Below (w.alloc (.cells #[.int .i64 c, .int .i64 q, .int .i64 a, .slice ab b.length cb] 34)).heap.size (w.alloc (.cells #[.int .i64 c, .int .i64 q, .int .i64 a, .slice ab b.length cb] 34)) (w.alloc (.cells #[.int .i64 c, .int .i64 q, .int .i64 a, .slice ab b.length cb] 34)).drew := Below.drew (Below.refl _ _)
    have HC1 := hide ((unhide HC).call bd)
    have HV1 := hide ((unhide HV).call bd)
    have HX1 := hide ((unhide HBX).drew)
    have HB1 : Hid (Below w.heap.size w (w.alloc (.cells #[.int .i64 c, .int .i64 q, .int .i64 a, .slice ab b.length cb] 34)).drew) := hide ((unhide HB0).trans (bd.mono (unhide HB0).size))
    rw [unhide HGB] at HX1
    obtain ⟨wd, hwd⟩ : ∃ z, (w.alloc (.cells #[.int .i64 c, .int .i64 q, .int .i64 a, .slice ab b.length cb] 34)).drew = z := ⟨_, rfl⟩
    rw [hwd] at HC1 HV1 HX1 HB1 hHeld ⊢
    rw [unhide HGB]
    clear hwd bd HC HV HBX HB0
    refine wpAnyT_take (i := 0) (oi := { dst := some 11, op := Op.fieldAddr 34 (Operand.tmp 3) 0, type := 0, pos := "channel.go:75", after := #[], guard := none }) (v := .pointer (some ⟨gb, 0, none⟩)) rfl (by kernel_rfl) (by kernel_rfl) (by kernel_rfl) (by kernel_rfl) (fun _ _ _ h => h) (Or.inl ⟨by rfl, ?_⟩) hHeld ?_
    · intro w hSw
      obtain ⟨h0, h5⟩ := hSw
      first
        | rfl
        | (go_simp; done)
    try simp only [Act.put, List.setIfInBounds_toArray, List.set_cons_zero, List.set_cons_succ]
    refine wpAnyT_take (i := 1) (oi := { dst := some 12, op := Op.load 3 (Operand.tmp 11), type := 3, pos := "channel.go:75", after := #[{ on := 0, ground := Ground.data }], guard := none }) (v := .int .i64 c) rfl (by kernel_rfl) (by kernel_rfl) (by kernel_rfl) (by kernel_rfl) (fun _ _ _ h => h) (Or.inl ⟨by rfl, ?_⟩) hHeld ?_
    · intro w hSw
      obtain ⟨h0, h5⟩ := hSw
      first
        | rfl
        | (go_simp; done)
    try simp only [Act.put, List.setIfInBounds_toArray, List.set_cons_zero, List.set_cons_succ]
    refine wpAnyT_take (i := 2) (oi := { dst := some 13, op := Op.move (Operand.tmp 0), type := 23, pos := "channel.go:75", after := #[], guard := none }) (v := .pointer (some ⟨g, 0, none⟩)) rfl (by kernel_rfl) (by kernel_rfl) (by kernel_rfl) (by kernel_rfl) (fun _ _ _ h => h) (Or.inl ⟨by rfl, ?_⟩) hHeld ?_
    · intro w hSw
      obtain ⟨h0, h5⟩ := hSw
      first
        | rfl
        | (go_simp; done)
    try simp only [Act.put, List.setIfInBounds_toArray, List.set_cons_zero, List.set_cons_succ]
    refine wpAnyT_take (i := 3) (oi := { dst := some 14, op := Op.nilCheck (Operand.tmp 13), type := 0, pos := "channel.go:75", after := #[{ on := 2, ground := Ground.data }], guard := none }) (v := .pointer (some ⟨g, 0, none⟩)) rfl (by kernel_rfl) (by kernel_rfl) (by kernel_rfl) (by kernel_rfl) (fun _ _ _ h => h) (Or.inl ⟨by rfl, ?_⟩) hHeld ?_
    · intro w hSw
      obtain ⟨h0, h5⟩ := hSw
      first
        | rfl
        | (go_simp; done)
    try simp only [Act.put, List.setIfInBounds_toArray, List.set_cons_zero, List.set_cons_succ]
    refine wpAnyT_take (i := 4) (oi := { dst := some 15, op := Op.fieldAddr 80 (Operand.tmp 14) 2, type := 0, pos := "channel.go:75", after := #[{ on := 3, ground := Ground.data }], guard := none }) (v := .pointer (some ⟨g, 5, none⟩)) rfl (by kernel_rfl) (by kernel_rfl) (by kernel_rfl) (by kernel_rfl) (fun _ _ _ h => h) (Or.inl ⟨by rfl, ?_⟩) hHeld ?_
    · intro w hSw
      obtain ⟨h0, h5⟩ := hSw
      first
        | rfl
        | (go_simp; done)
    try simp only [Act.put, List.setIfInBounds_toArray, List.set_cons_zero, List.set_cons_succ]
    refine wpAnyT_take (i := 5) (oi := { dst := some 16, op := Op.load 3 (Operand.tmp 15), type := 3, pos := "channel.go:75", after := #[{ on := 4, ground := Ground.data }], guard := none }) (v := .int .i64 cn) rfl (by kernel_rfl) (by kernel_rfl) (by kernel_rfl) (by kernel_rfl) (fun _ _ _ h => h) (Or.inl ⟨by rfl, ?_⟩) hHeld ?_
    · intro w hSw
      obtain ⟨h0, h5⟩ := hSw
      first
        | rfl
        | (go_simp; done)
    try simp only [Act.put, List.setIfInBounds_toArray, List.set_cons_zero, List.set_cons_succ]
    refine wpAnyT_take (i := 6) (oi := { dst := some 17, op := Op.binOp BinOp.neq 3 (Operand.tmp 12) (Operand.tmp 16) 3, type := 4, pos := "channel.go:75", after := #[{ on := 1, ground := Ground.data }, { on := 5, ground := Ground.data }], guard := none }) (v := .bool false) rfl (by kernel_rfl) (by kernel_rfl) (by kernel_rfl) (by kernel_rfl) (fun _ _ _ h => h) (Or.inl ⟨by rfl, ?_⟩) hHeld ?_
    · intro w hSw
      obtain ⟨h0, h5⟩ := hSw
      first
        | rfl
        | (go_simp; done)
    try simp only [Act.put, List.setIfInBounds_toArray, List.set_cons_zero, List.set_cons_succ]
    refine wpAnyT_take (i := 7) (oi := { dst := some 10, op := Op.assign (Operand.tmp 17), type := 4, pos := "channel.go:75", after := #[{ on := 6, ground := Ground.data }], guard := none }) (v := .bool false) rfl (by kernel_rfl) (by kernel_rfl) (by kernel_rfl) (by kernel_rfl) (fun _ _ _ h => h) (Or.inl ⟨by rfl, ?_⟩) hHeld ?_
    · intro w hSw
      obtain ⟨h0, h5⟩ := hSw
      first
        | rfl
        | (go_simp; done)
    try simp only [Act.put, List.setIfInBounds_toArray, List.set_cons_zero, List.set_cons_succ]
    refine wpAnyT_done (by kernel_rfl) ?_ _
    have x0 : wd.cell? ⟨gb, 0, none⟩ = some (.int .i64 c) := (unhide HX1).cell 0
    have x1 : wd.cell? ⟨gb, 1, none⟩ = some (.int .i64 q) := (unhide HX1).cell 1
    have x2 : wd.cell? ⟨gb, 2, none⟩ = some (.int .i64 a) := (unhide HX1).cell 2
    have x3 : wd.cell? ⟨gb, 3, none⟩ = some (.slice ab b.length cb) := (unhide HX1).cell 3
    have HR := hide (TakeR.no (w' := wd) (c := c) (q := q) (a := a) (b := b) (unhide HH) (unhide HB1) (show takeE s c q a b.length = 120 from unhide HE1) (by decide))
    go_wp2_with fail
    go_ret2
    exact unhide HR
  have g2i : 0 ≤ q := by omega
  by_cases g3 : a < 0
  · have HE1 : Hid (takeE s c q a b.length = 120) := hide (by unfold takeE; rw [if_neg (unhide HCC), if_pos (.inr (.inl g3))])
    go_enter Try.func17, Try.ntmps17
    go_wp2_with fail
    refine Calls.mono (unhide K) ?_
    rintro r w' ⟨rfl, rfl⟩
    clear K
    go_wp2_with fail
    refine wp_region_T (S := fun W => W.cell? ⟨gb, 0, none⟩ = some (.int .i64 c) ∧ W.cell? ⟨g, 5, none⟩ = some (.int .i64 cn)) (fun i => decide (i < 8)) (by kernel_rfl) (by rw [← unhide HGB, ← unhide HCN]; exact ⟨(unhide HBX).cell 0, (unhide HC).row.cell 5⟩) (fun hHeld => ?_)
    have bd : Below (w.alloc (.cells #[.int .i64 c, .int .i64 q, .int .i64 a, .slice ab b.length cb] 34)).heap.size (w.alloc (.cells #[.int .i64 c, .int .i64 q, .int .i64 a, .slice ab b.length cb] 34)) (w.alloc (.cells #[.int .i64 c, .int .i64 q, .int .i64 a, .slice ab b.length cb] 34)).drew := Below.drew (Below.refl _ _)
    have HC1 := hide ((unhide HC).call bd)
    have HV1 := hide ((unhide HV).call bd)
    have HX1 := hide ((unhide HBX).drew)
    have HB1 : Hid (Below w.heap.size w (w.alloc (.cells #[.int .i64 c, .int .i64 q, .int .i64 a, .slice ab b.length cb] 34)).drew) := hide ((unhide HB0).trans (bd.mono (unhide HB0).size))
    rw [unhide HGB] at HX1
    obtain ⟨wd, hwd⟩ : ∃ z, (w.alloc (.cells #[.int .i64 c, .int .i64 q, .int .i64 a, .slice ab b.length cb] 34)).drew = z := ⟨_, rfl⟩
    rw [hwd] at HC1 HV1 HX1 HB1 hHeld ⊢
    rw [unhide HGB]
    clear hwd bd HC HV HBX HB0
    refine wpAnyT_take (i := 0) (oi := { dst := some 11, op := Op.fieldAddr 34 (Operand.tmp 3) 0, type := 0, pos := "channel.go:75", after := #[], guard := none }) (v := .pointer (some ⟨gb, 0, none⟩)) rfl (by kernel_rfl) (by kernel_rfl) (by kernel_rfl) (by kernel_rfl) (fun _ _ _ h => h) (Or.inl ⟨by rfl, ?_⟩) hHeld ?_
    · intro w hSw
      obtain ⟨h0, h5⟩ := hSw
      first
        | rfl
        | (go_simp; done)
    try simp only [Act.put, List.setIfInBounds_toArray, List.set_cons_zero, List.set_cons_succ]
    refine wpAnyT_take (i := 1) (oi := { dst := some 12, op := Op.load 3 (Operand.tmp 11), type := 3, pos := "channel.go:75", after := #[{ on := 0, ground := Ground.data }], guard := none }) (v := .int .i64 c) rfl (by kernel_rfl) (by kernel_rfl) (by kernel_rfl) (by kernel_rfl) (fun _ _ _ h => h) (Or.inl ⟨by rfl, ?_⟩) hHeld ?_
    · intro w hSw
      obtain ⟨h0, h5⟩ := hSw
      first
        | rfl
        | (go_simp; done)
    try simp only [Act.put, List.setIfInBounds_toArray, List.set_cons_zero, List.set_cons_succ]
    refine wpAnyT_take (i := 2) (oi := { dst := some 13, op := Op.move (Operand.tmp 0), type := 23, pos := "channel.go:75", after := #[], guard := none }) (v := .pointer (some ⟨g, 0, none⟩)) rfl (by kernel_rfl) (by kernel_rfl) (by kernel_rfl) (by kernel_rfl) (fun _ _ _ h => h) (Or.inl ⟨by rfl, ?_⟩) hHeld ?_
    · intro w hSw
      obtain ⟨h0, h5⟩ := hSw
      first
        | rfl
        | (go_simp; done)
    try simp only [Act.put, List.setIfInBounds_toArray, List.set_cons_zero, List.set_cons_succ]
    refine wpAnyT_take (i := 3) (oi := { dst := some 14, op := Op.nilCheck (Operand.tmp 13), type := 0, pos := "channel.go:75", after := #[{ on := 2, ground := Ground.data }], guard := none }) (v := .pointer (some ⟨g, 0, none⟩)) rfl (by kernel_rfl) (by kernel_rfl) (by kernel_rfl) (by kernel_rfl) (fun _ _ _ h => h) (Or.inl ⟨by rfl, ?_⟩) hHeld ?_
    · intro w hSw
      obtain ⟨h0, h5⟩ := hSw
      first
        | rfl
        | (go_simp; done)
    try simp only [Act.put, List.setIfInBounds_toArray, List.set_cons_zero, List.set_cons_succ]
    refine wpAnyT_take (i := 4) (oi := { dst := some 15, op := Op.fieldAddr 80 (Operand.tmp 14) 2, type := 0, pos := "channel.go:75", after := #[{ on := 3, ground := Ground.data }], guard := none }) (v := .pointer (some ⟨g, 5, none⟩)) rfl (by kernel_rfl) (by kernel_rfl) (by kernel_rfl) (by kernel_rfl) (fun _ _ _ h => h) (Or.inl ⟨by rfl, ?_⟩) hHeld ?_
    · intro w hSw
      obtain ⟨h0, h5⟩ := hSw
      first
        | rfl
        | (go_simp; done)
    try simp only [Act.put, List.setIfInBounds_toArray, List.set_cons_zero, List.set_cons_succ]
    refine wpAnyT_take (i := 5) (oi := { dst := some 16, op := Op.load 3 (Operand.tmp 15), type := 3, pos := "channel.go:75", after := #[{ on := 4, ground := Ground.data }], guard := none }) (v := .int .i64 cn) rfl (by kernel_rfl) (by kernel_rfl) (by kernel_rfl) (by kernel_rfl) (fun _ _ _ h => h) (Or.inl ⟨by rfl, ?_⟩) hHeld ?_
    · intro w hSw
      obtain ⟨h0, h5⟩ := hSw
      first
        | rfl
        | (go_simp; done)
    try simp only [Act.put, List.setIfInBounds_toArray, List.set_cons_zero, List.set_cons_succ]
    refine wpAnyT_take (i := 6) (oi := { dst := some 17, op := Op.binOp BinOp.neq 3 (Operand.tmp 12) (Operand.tmp 16) 3, type := 4, pos := "channel.go:75", after := #[{ on := 1, ground := Ground.data }, { on := 5, ground := Ground.data }], guard := none }) (v := .bool false) rfl (by kernel_rfl) (by kernel_rfl) (by kernel_rfl) (by kernel_rfl) (fun _ _ _ h => h) (Or.inl ⟨by rfl, ?_⟩) hHeld ?_
    · intro w hSw
      obtain ⟨h0, h5⟩ := hSw
      first
        | rfl
        | (go_simp; done)
    try simp only [Act.put, List.setIfInBounds_toArray, List.set_cons_zero, List.set_cons_succ]
    refine wpAnyT_take (i := 7) (oi := { dst := some 10, op := Op.assign (Operand.tmp 17), type := 4, pos := "channel.go:75", after := #[{ on := 6, ground := Ground.data }], guard := none }) (v := .bool false) rfl (by kernel_rfl) (by kernel_rfl) (by kernel_rfl) (by kernel_rfl) (fun _ _ _ h => h) (Or.inl ⟨by rfl, ?_⟩) hHeld ?_
    · intro w hSw
      obtain ⟨h0, h5⟩ := hSw
      first
        | rfl
        | (go_simp; done)
    try simp only [Act.put, List.setIfInBounds_toArray, List.set_cons_zero, List.set_cons_succ]
    refine wpAnyT_done (by kernel_rfl) ?_ _
    have x0 : wd.cell? ⟨gb, 0, none⟩ = some (.int .i64 c) := (unhide HX1).cell 0
    have x1 : wd.cell? ⟨gb, 1, none⟩ = some (.int .i64 q) := (unhide HX1).cell 1
    have x2 : wd.cell? ⟨gb, 2, none⟩ = some (.int .i64 a) := (unhide HX1).cell 2
    have x3 : wd.cell? ⟨gb, 3, none⟩ = some (.slice ab b.length cb) := (unhide HX1).cell 3
    have HR := hide (TakeR.no (w' := wd) (c := c) (q := q) (a := a) (b := b) (unhide HH) (unhide HB1) (show takeE s c q a b.length = 120 from unhide HE1) (by decide))
    go_wp2_with fail
    go_ret2
    exact unhide HR
  have g3i : 0 ≤ a := by omega
  by_cases g4 : q = 0
  · subst g4
    by_cases g5 : n = 0
    rotate_left
    · have HE1 : Hid (takeE s c 0 a b.length = 120) := hide (by unfold takeE; rw [if_neg (unhide HCC), if_pos (.inr (.inr (fun h => g5 (by rw [← unhide HN]; exact h.1 rfl))))])
      have g5b : ((b.length : Int) == 0) = false := by simp [unhide HN, g5]
      clear g5
      go_enter Try.func17, Try.ntmps17
      go_wp2_with fail
      refine Calls.mono (unhide K) ?_
      rintro r w' ⟨rfl, rfl⟩
      clear K
      go_wp2_with fail
      refine wp_region_T (S := fun W => W.cell? ⟨gb, 0, none⟩ = some (.int .i64 c) ∧ W.cell? ⟨g, 5, none⟩ = some (.int .i64 cn)) (fun i => decide (i < 8)) (by kernel_rfl) (by rw [← unhide HGB, ← unhide HCN]; exact ⟨(unhide HBX).cell 0, (unhide HC).row.cell 5⟩) (fun hHeld => ?_)
      have bd : Below (w.alloc (.cells #[.int .i64 c, .int .i64 0, .int .i64 a, .slice ab b.length cb] 34)).heap.size (w.alloc (.cells #[.int .i64 c, .int .i64 0, .int .i64 a, .slice ab b.length cb] 34)) (w.alloc (.cells #[.int .i64 c, .int .i64 0, .int .i64 a, .slice ab b.length cb] 34)).drew := Below.drew (Below.refl _ _)
      have HC1 := hide ((unhide HC).call bd)
      have HV1 := hide ((unhide HV).call bd)
      have HX1 := hide ((unhide HBX).drew)
      have HB1 : Hid (Below w.heap.size w (w.alloc (.cells #[.int .i64 c, .int .i64 0, .int .i64 a, .slice ab b.length cb] 34)).drew) := hide ((unhide HB0).trans (bd.mono (unhide HB0).size))
      rw [unhide HGB] at HX1
      obtain ⟨wd, hwd⟩ : ∃ z, (w.alloc (.cells #[.int .i64 c, .int .i64 0, .int .i64 a, .slice ab b.length cb] 34)).drew = z := ⟨_, rfl⟩
      rw [hwd] at HC1 HV1 HX1 HB1 hHeld ⊢
      rw [unhide HGB]
      clear hwd bd HC HV HBX HB0
      refine wpAnyT_take (i := 0) (oi := { dst := some 11, op := Op.fieldAddr 34 (Operand.tmp 3) 0, type := 0, pos := "channel.go:75", after := #[], guard := none }) (v := .pointer (some ⟨gb, 0, none⟩)) rfl (by kernel_rfl) (by kernel_rfl) (by kernel_rfl) (by kernel_rfl) (fun _ _ _ h => h) (Or.inl ⟨by rfl, ?_⟩) hHeld ?_
      · intro w hSw
        obtain ⟨h0, h5⟩ := hSw
        first
          | rfl
          | (go_simp; done)
      try simp only [Act.put, List.setIfInBounds_toArray, List.set_cons_zero, List.set_cons_succ]
      refine wpAnyT_take (i := 1) (oi := { dst := some 12, op := Op.load 3 (Operand.tmp 11), type := 3, pos := "channel.go:75", after := #[{ on := 0, ground := Ground.data }], guard := none }) (v := .int .i64 c) rfl (by kernel_rfl) (by kernel_rfl) (by kernel_rfl) (by kernel_rfl) (fun _ _ _ h => h) (Or.inl ⟨by rfl, ?_⟩) hHeld ?_
      · intro w hSw
        obtain ⟨h0, h5⟩ := hSw
        first
          | rfl
          | (go_simp; done)
      try simp only [Act.put, List.setIfInBounds_toArray, List.set_cons_zero, List.set_cons_succ]
      refine wpAnyT_take (i := 2) (oi := { dst := some 13, op := Op.move (Operand.tmp 0), type := 23, pos := "channel.go:75", after := #[], guard := none }) (v := .pointer (some ⟨g, 0, none⟩)) rfl (by kernel_rfl) (by kernel_rfl) (by kernel_rfl) (by kernel_rfl) (fun _ _ _ h => h) (Or.inl ⟨by rfl, ?_⟩) hHeld ?_
      · intro w hSw
        obtain ⟨h0, h5⟩ := hSw
        first
          | rfl
          | (go_simp; done)
      try simp only [Act.put, List.setIfInBounds_toArray, List.set_cons_zero, List.set_cons_succ]
      refine wpAnyT_take (i := 3) (oi := { dst := some 14, op := Op.nilCheck (Operand.tmp 13), type := 0, pos := "channel.go:75", after := #[{ on := 2, ground := Ground.data }], guard := none }) (v := .pointer (some ⟨g, 0, none⟩)) rfl (by kernel_rfl) (by kernel_rfl) (by kernel_rfl) (by kernel_rfl) (fun _ _ _ h => h) (Or.inl ⟨by rfl, ?_⟩) hHeld ?_
      · intro w hSw
        obtain ⟨h0, h5⟩ := hSw
        first
          | rfl
          | (go_simp; done)
      try simp only [Act.put, List.setIfInBounds_toArray, List.set_cons_zero, List.set_cons_succ]
      refine wpAnyT_take (i := 4) (oi := { dst := some 15, op := Op.fieldAddr 80 (Operand.tmp 14) 2, type := 0, pos := "channel.go:75", after := #[{ on := 3, ground := Ground.data }], guard := none }) (v := .pointer (some ⟨g, 5, none⟩)) rfl (by kernel_rfl) (by kernel_rfl) (by kernel_rfl) (by kernel_rfl) (fun _ _ _ h => h) (Or.inl ⟨by rfl, ?_⟩) hHeld ?_
      · intro w hSw
        obtain ⟨h0, h5⟩ := hSw
        first
          | rfl
          | (go_simp; done)
      try simp only [Act.put, List.setIfInBounds_toArray, List.set_cons_zero, List.set_cons_succ]
      refine wpAnyT_take (i := 5) (oi := { dst := some 16, op := Op.load 3 (Operand.tmp 15), type := 3, pos := "channel.go:75", after := #[{ on := 4, ground := Ground.data }], guard := none }) (v := .int .i64 cn) rfl (by kernel_rfl) (by kernel_rfl) (by kernel_rfl) (by kernel_rfl) (fun _ _ _ h => h) (Or.inl ⟨by rfl, ?_⟩) hHeld ?_
      · intro w hSw
        obtain ⟨h0, h5⟩ := hSw
        first
          | rfl
          | (go_simp; done)
      try simp only [Act.put, List.setIfInBounds_toArray, List.set_cons_zero, List.set_cons_succ]
      refine wpAnyT_take (i := 6) (oi := { dst := some 17, op := Op.binOp BinOp.neq 3 (Operand.tmp 12) (Operand.tmp 16) 3, type := 4, pos := "channel.go:75", after := #[{ on := 1, ground := Ground.data }, { on := 5, ground := Ground.data }], guard := none }) (v := .bool false) rfl (by kernel_rfl) (by kernel_rfl) (by kernel_rfl) (by kernel_rfl) (fun _ _ _ h => h) (Or.inl ⟨by rfl, ?_⟩) hHeld ?_
      · intro w hSw
        obtain ⟨h0, h5⟩ := hSw
        first
          | rfl
          | (go_simp; done)
      try simp only [Act.put, List.setIfInBounds_toArray, List.set_cons_zero, List.set_cons_succ]
      refine wpAnyT_take (i := 7) (oi := { dst := some 10, op := Op.assign (Operand.tmp 17), type := 4, pos := "channel.go:75", after := #[{ on := 6, ground := Ground.data }], guard := none }) (v := .bool false) rfl (by kernel_rfl) (by kernel_rfl) (by kernel_rfl) (by kernel_rfl) (fun _ _ _ h => h) (Or.inl ⟨by rfl, ?_⟩) hHeld ?_
      · intro w hSw
        obtain ⟨h0, h5⟩ := hSw
        first
          | rfl
          | (go_simp; done)
      try simp only [Act.put, List.setIfInBounds_toArray, List.set_cons_zero, List.set_cons_succ]
      refine wpAnyT_done (by kernel_rfl) ?_ _
      have x0 : wd.cell? ⟨gb, 0, none⟩ = some (.int .i64 c) := (unhide HX1).cell 0
      have x1 : wd.cell? ⟨gb, 1, none⟩ = some (.int .i64 0) := (unhide HX1).cell 1
      have x2 : wd.cell? ⟨gb, 2, none⟩ = some (.int .i64 a) := (unhide HX1).cell 2
      have x3 : wd.cell? ⟨gb, 3, none⟩ = some (.slice ab b.length cb) := (unhide HX1).cell 3
      have HR := hide (TakeR.no (w' := wd) (c := c) (q := 0) (a := a) (b := b) (unhide HH) (unhide HB1) (show takeE s c 0 a b.length = 120 from unhide HE1) (by decide))
      go_wp2_with fail
      go_ret2
      exact unhide HR
    · have g5b : ((b.length : Int) == 0) = true := by simp [unhide HN, g5]
      have HE1 : Hid (takeE s c 0 a b.length = 0) := hide (by
        unfold takeE
        rw [if_neg (unhide HCC), if_neg]
        rintro (h | h | h)
        · exact g2 h
        · exact g3 h
        · exact h ⟨fun _ => by rw [unhide HN]; exact g5, fun _ => rfl⟩)
      clear g5
      go_enter Try.func17, Try.ntmps17
      go_wp2_with fail
      refine Calls.mono (unhide K) ?_
      rintro r w' ⟨rfl, rfl⟩
      clear K
      go_wp2_with fail
      refine wp_region_T (S := fun W => W.cell? ⟨gb, 0, none⟩ = some (.int .i64 c) ∧ W.cell? ⟨g, 5, none⟩ = some (.int .i64 cn)) (fun i => decide (i < 8)) (by kernel_rfl) (by rw [← unhide HGB, ← unhide HCN]; exact ⟨(unhide HBX).cell 0, (unhide HC).row.cell 5⟩) (fun hHeld => ?_)
      have bd : Below (w.alloc (.cells #[.int .i64 c, .int .i64 0, .int .i64 a, .slice ab b.length cb] 34)).heap.size (w.alloc (.cells #[.int .i64 c, .int .i64 0, .int .i64 a, .slice ab b.length cb] 34)) (w.alloc (.cells #[.int .i64 c, .int .i64 0, .int .i64 a, .slice ab b.length cb] 34)).drew := Below.drew (Below.refl _ _)
      have HC1 := hide ((unhide HC).call bd)
      have HV1 := hide ((unhide HV).call bd)
      have HX1 := hide ((unhide HBX).drew)
      have HB1 : Hid (Below w.heap.size w (w.alloc (.cells #[.int .i64 c, .int .i64 0, .int .i64 a, .slice ab b.length cb] 34)).drew) := hide ((unhide HB0).trans (bd.mono (unhide HB0).size))
      rw [unhide HGB] at HX1
      obtain ⟨wd, hwd⟩ : ∃ z, (w.alloc (.cells #[.int .i64 c, .int .i64 0, .int .i64 a, .slice ab b.length cb] 34)).drew = z := ⟨_, rfl⟩
      rw [hwd] at HC1 HV1 HX1 HB1 hHeld ⊢
      rw [unhide HGB]
      clear hwd bd HC HV HBX HB0
      refine wpAnyT_take (i := 0) (oi := { dst := some 11, op := Op.fieldAddr 34 (Operand.tmp 3) 0, type := 0, pos := "channel.go:75", after := #[], guard := none }) (v := .pointer (some ⟨gb, 0, none⟩)) rfl (by kernel_rfl) (by kernel_rfl) (by kernel_rfl) (by kernel_rfl) (fun _ _ _ h => h) (Or.inl ⟨by rfl, ?_⟩) hHeld ?_
      · intro w hSw
        obtain ⟨h0, h5⟩ := hSw
        first
          | rfl
          | (go_simp; done)
      try simp only [Act.put, List.setIfInBounds_toArray, List.set_cons_zero, List.set_cons_succ]
      refine wpAnyT_take (i := 1) (oi := { dst := some 12, op := Op.load 3 (Operand.tmp 11), type := 3, pos := "channel.go:75", after := #[{ on := 0, ground := Ground.data }], guard := none }) (v := .int .i64 c) rfl (by kernel_rfl) (by kernel_rfl) (by kernel_rfl) (by kernel_rfl) (fun _ _ _ h => h) (Or.inl ⟨by rfl, ?_⟩) hHeld ?_
      · intro w hSw
        obtain ⟨h0, h5⟩ := hSw
        first
          | rfl
          | (go_simp; done)
      try simp only [Act.put, List.setIfInBounds_toArray, List.set_cons_zero, List.set_cons_succ]
      refine wpAnyT_take (i := 2) (oi := { dst := some 13, op := Op.move (Operand.tmp 0), type := 23, pos := "channel.go:75", after := #[], guard := none }) (v := .pointer (some ⟨g, 0, none⟩)) rfl (by kernel_rfl) (by kernel_rfl) (by kernel_rfl) (by kernel_rfl) (fun _ _ _ h => h) (Or.inl ⟨by rfl, ?_⟩) hHeld ?_
      · intro w hSw
        obtain ⟨h0, h5⟩ := hSw
        first
          | rfl
          | (go_simp; done)
      try simp only [Act.put, List.setIfInBounds_toArray, List.set_cons_zero, List.set_cons_succ]
      refine wpAnyT_take (i := 3) (oi := { dst := some 14, op := Op.nilCheck (Operand.tmp 13), type := 0, pos := "channel.go:75", after := #[{ on := 2, ground := Ground.data }], guard := none }) (v := .pointer (some ⟨g, 0, none⟩)) rfl (by kernel_rfl) (by kernel_rfl) (by kernel_rfl) (by kernel_rfl) (fun _ _ _ h => h) (Or.inl ⟨by rfl, ?_⟩) hHeld ?_
      · intro w hSw
        obtain ⟨h0, h5⟩ := hSw
        first
          | rfl
          | (go_simp; done)
      try simp only [Act.put, List.setIfInBounds_toArray, List.set_cons_zero, List.set_cons_succ]
      refine wpAnyT_take (i := 4) (oi := { dst := some 15, op := Op.fieldAddr 80 (Operand.tmp 14) 2, type := 0, pos := "channel.go:75", after := #[{ on := 3, ground := Ground.data }], guard := none }) (v := .pointer (some ⟨g, 5, none⟩)) rfl (by kernel_rfl) (by kernel_rfl) (by kernel_rfl) (by kernel_rfl) (fun _ _ _ h => h) (Or.inl ⟨by rfl, ?_⟩) hHeld ?_
      · intro w hSw
        obtain ⟨h0, h5⟩ := hSw
        first
          | rfl
          | (go_simp; done)
      try simp only [Act.put, List.setIfInBounds_toArray, List.set_cons_zero, List.set_cons_succ]
      refine wpAnyT_take (i := 5) (oi := { dst := some 16, op := Op.load 3 (Operand.tmp 15), type := 3, pos := "channel.go:75", after := #[{ on := 4, ground := Ground.data }], guard := none }) (v := .int .i64 cn) rfl (by kernel_rfl) (by kernel_rfl) (by kernel_rfl) (by kernel_rfl) (fun _ _ _ h => h) (Or.inl ⟨by rfl, ?_⟩) hHeld ?_
      · intro w hSw
        obtain ⟨h0, h5⟩ := hSw
        first
          | rfl
          | (go_simp; done)
      try simp only [Act.put, List.setIfInBounds_toArray, List.set_cons_zero, List.set_cons_succ]
      refine wpAnyT_take (i := 6) (oi := { dst := some 17, op := Op.binOp BinOp.neq 3 (Operand.tmp 12) (Operand.tmp 16) 3, type := 4, pos := "channel.go:75", after := #[{ on := 1, ground := Ground.data }, { on := 5, ground := Ground.data }], guard := none }) (v := .bool false) rfl (by kernel_rfl) (by kernel_rfl) (by kernel_rfl) (by kernel_rfl) (fun _ _ _ h => h) (Or.inl ⟨by rfl, ?_⟩) hHeld ?_
      · intro w hSw
        obtain ⟨h0, h5⟩ := hSw
        first
          | rfl
          | (go_simp; done)
      try simp only [Act.put, List.setIfInBounds_toArray, List.set_cons_zero, List.set_cons_succ]
      refine wpAnyT_take (i := 7) (oi := { dst := some 10, op := Op.assign (Operand.tmp 17), type := 4, pos := "channel.go:75", after := #[{ on := 6, ground := Ground.data }], guard := none }) (v := .bool false) rfl (by kernel_rfl) (by kernel_rfl) (by kernel_rfl) (by kernel_rfl) (fun _ _ _ h => h) (Or.inl ⟨by rfl, ?_⟩) hHeld ?_
      · intro w hSw
        obtain ⟨h0, h5⟩ := hSw
        first
          | rfl
          | (go_simp; done)
      try simp only [Act.put, List.setIfInBounds_toArray, List.set_cons_zero, List.set_cons_succ]
      refine wpAnyT_done (by kernel_rfl) ?_ _
      have x0 : wd.cell? ⟨gb, 0, none⟩ = some (.int .i64 c) := (unhide HX1).cell 0
      have x1 : wd.cell? ⟨gb, 1, none⟩ = some (.int .i64 0) := (unhide HX1).cell 1
      have x2 : wd.cell? ⟨gb, 2, none⟩ = some (.int .i64 a) := (unhide HX1).cell 2
      have x3 : wd.cell? ⟨gb, 3, none⟩ = some (.slice ab b.length cb) := (unhide HX1).cell 3
      go_wp2_with fail
      clear x0 x1 x2 x3 hHeld
      refine wp_region_T (S := fun W => W.cell? ⟨gb, 2, none⟩ = some (.int .i64 a)) (fun i => decide (i < 6)) (by kernel_rfl) ((unhide HX1).cell 2) (fun hHeld => ?_)
      have bd : Below wd.heap.size wd wd.drew := Below.drew (Below.refl _ _)
      have HC2 := hide ((unhide HC1).call bd)
      have HV2 := hide ((unhide HV1).call bd)
      have HX2 := hide ((unhide HX1).drew)
      have HT2 : Hid (Turn w wd.drew g m vq vq) := hide (Turn.below ((unhide HB1).trans (bd.mono (unhide HB1).size)))
      obtain ⟨we, hwe⟩ : ∃ z, wd.drew = z := ⟨_, rfl⟩
      rw [hwe] at HC2 HV2 HX2 HT2 hHeld ⊢
      clear hwe bd HC1 HV1 HX1 HB1
      refine wpAnyT_take (i := 0) (oi := { dst := some 37, op := Op.move (Operand.tmp 0), type := 23, pos := "channel.go:80", after := #[], guard := none }) (v := .pointer (some ⟨g, 0, none⟩)) rfl (by kernel_rfl) (by kernel_rfl) (by kernel_rfl) (by kernel_rfl) (fun _ _ _ h => h) (Or.inl ⟨by rfl, ?_⟩) hHeld ?_
      · intro w hSw
        obtain h2 := hSw
        first
          | rfl
          | (go_simp; done)
      try simp only [Act.put, List.setIfInBounds_toArray, List.set_cons_zero, List.set_cons_succ]
      refine wpAnyT_take (i := 1) (oi := { dst := some 38, op := Op.nilCheck (Operand.tmp 37), type := 0, pos := "channel.go:80", after := #[{ on := 0, ground := Ground.data }], guard := none }) (v := .pointer (some ⟨g, 0, none⟩)) rfl (by kernel_rfl) (by kernel_rfl) (by kernel_rfl) (by kernel_rfl) (fun _ _ _ h => h) (Or.inl ⟨by rfl, ?_⟩) hHeld ?_
      · intro w hSw
        obtain h2 := hSw
        first
          | rfl
          | (go_simp; done)
      try simp only [Act.put, List.setIfInBounds_toArray, List.set_cons_zero, List.set_cons_succ]
      refine wpAnyT_take (i := 2) (oi := { dst := some 39, op := Op.fieldAddr 80 (Operand.tmp 38) 0, type := 0, pos := "channel.go:80", after := #[{ on := 1, ground := Ground.data }], guard := none }) (v := .pointer (some ⟨g, 0, none⟩)) rfl (by kernel_rfl) (by kernel_rfl) (by kernel_rfl) (by kernel_rfl) (fun _ _ _ h => h) (Or.inl ⟨by rfl, ?_⟩) hHeld ?_
      · intro w hSw
        obtain h2 := hSw
        first
          | rfl
          | (go_simp; done)
      try simp only [Act.put, List.setIfInBounds_toArray, List.set_cons_zero, List.set_cons_succ]
      refine wpAnyT_take (i := 3) (oi := { dst := some 40, op := Op.fieldAddr 34 (Operand.tmp 3) 2, type := 0, pos := "channel.go:80", after := #[], guard := none }) (v := .pointer (some ⟨gb, 2, none⟩)) rfl (by kernel_rfl) (by kernel_rfl) (by kernel_rfl) (by kernel_rfl) (fun _ _ _ h => h) (Or.inl ⟨by rfl, ?_⟩) hHeld ?_
      · intro w hSw
        obtain h2 := hSw
        first
          | rfl
          | (go_simp; done)
      try simp only [Act.put, List.setIfInBounds_toArray, List.set_cons_zero, List.set_cons_succ]
      refine wpAnyT_take (i := 4) (oi := { dst := some 41, op := Op.load 3 (Operand.tmp 40), type := 3, pos := "channel.go:80", after := #[{ on := 3, ground := Ground.data }], guard := none }) (v := .int .i64 a) rfl (by kernel_rfl) (by kernel_rfl) (by kernel_rfl) (by kernel_rfl) (fun _ _ _ h => h) (Or.inl ⟨by rfl, ?_⟩) hHeld ?_
      · intro w hSw
        obtain h2 := hSw
        first
          | rfl
          | (go_simp; done)
      try simp only [Act.put, List.setIfInBounds_toArray, List.set_cons_zero, List.set_cons_succ]
      refine wpAnyT_one (i := 5) (o := { dst := some 42, op := Op.call { callee := Callee.value (Operand.func 41), args := #[Operand.tmp 39, Operand.tmp 41], argTypes := #[75, 3] }, type := 0, pos := "channel.go:80", after := #[{ on := 2, ground := Ground.data }, { on := 4, ground := Ground.data }], guard := none }) (by kernel_rfl) rfl (fun K hK => ?_)
      go_simp
      refine Calls.mono (ack_ok B g m vq s a we (unhide HC2) (unhide HOK).q) ?_
      rintro r w3 ⟨rfl, vq2, c3, t3⟩
      have HC3 : Hid (Ch w3 B g m vq2 (ackS s a)) := hide c3
      have HT3 := hide ((unhide HT2).trans t3)
      have HX3 := hide ((unhide HC2).keepRow (unhide HX2) (by decide) (by decide) t3.1)
      have HV3 := hide ((unhide HV2).keep (unhide HC2) t3.1)
      have hS3 : w3.cell? ⟨gb, 2, none⟩ = some (.int .i64 a) := (unhide HX3).cell 2
      clear c3 t3 HC2 HT2 HX2 HV2
      go_wp2_with fail
      refine hK.out _ _ (fun _ => hS3) ?_
      clear hK K
      clear hS3
      try simp only [Act.put, List.setIfInBounds_toArray, List.set_cons_zero, List.set_cons_succ]
      refine wpAnyT_done (by kernel_rfl) ?_ _
      have x0 : w3.cell? ⟨gb, 0, none⟩ = some (.int .i64 c) := (unhide HX3).cell 0
      have x1 : w3.cell? ⟨gb, 1, none⟩ = some (.int .i64 0) := (unhide HX3).cell 1
      have x2 : w3.cell? ⟨gb, 2, none⟩ = some (.int .i64 a) := (unhide HX3).cell 2
      have x3 : w3.cell? ⟨gb, 3, none⟩ = some (.slice ab b.length cb) := (unhide HX3).cell 3
      have HR := hide (take_ack (unhide HE1) (unhide HC3) (unhide HT3))
      go_wp2_with fail
      go_ret2
      exact unhide HR
  have g4b : (q == 0) = false := by simp [g4]
  by_cases g5 : n = 0
  · have HE1 : Hid (takeE s c q a b.length = 120) := hide (by unfold takeE; rw [if_neg (unhide HCC), if_pos (.inr (.inr (fun h => g4 (h.2 (by rw [unhide HN]; exact g5)))))])
    have g5b : ((b.length : Int) == 0) = true := by simp [unhide HN, g5]
    clear g5
    go_enter Try.func17, Try.ntmps17
    go_wp2_with fail
    refine Calls.mono (unhide K) ?_
    rintro r w' ⟨rfl, rfl⟩
    clear K
    go_wp2_with fail
    refine wp_region_T (S := fun W => W.cell? ⟨gb, 0, none⟩ = some (.int .i64 c) ∧ W.cell? ⟨g, 5, none⟩ = some (.int .i64 cn)) (fun i => decide (i < 8)) (by kernel_rfl) (by rw [← unhide HGB, ← unhide HCN]; exact ⟨(unhide HBX).cell 0, (unhide HC).row.cell 5⟩) (fun hHeld => ?_)
    have bd : Below (w.alloc (.cells #[.int .i64 c, .int .i64 q, .int .i64 a, .slice ab b.length cb] 34)).heap.size (w.alloc (.cells #[.int .i64 c, .int .i64 q, .int .i64 a, .slice ab b.length cb] 34)) (w.alloc (.cells #[.int .i64 c, .int .i64 q, .int .i64 a, .slice ab b.length cb] 34)).drew := Below.drew (Below.refl _ _)
    have HC1 := hide ((unhide HC).call bd)
    have HV1 := hide ((unhide HV).call bd)
    have HX1 := hide ((unhide HBX).drew)
    have HB1 : Hid (Below w.heap.size w (w.alloc (.cells #[.int .i64 c, .int .i64 q, .int .i64 a, .slice ab b.length cb] 34)).drew) := hide ((unhide HB0).trans (bd.mono (unhide HB0).size))
    rw [unhide HGB] at HX1
    obtain ⟨wd, hwd⟩ : ∃ z, (w.alloc (.cells #[.int .i64 c, .int .i64 q, .int .i64 a, .slice ab b.length cb] 34)).drew = z := ⟨_, rfl⟩
    rw [hwd] at HC1 HV1 HX1 HB1 hHeld ⊢
    rw [unhide HGB]
    clear hwd bd HC HV HBX HB0
    refine wpAnyT_take (i := 0) (oi := { dst := some 11, op := Op.fieldAddr 34 (Operand.tmp 3) 0, type := 0, pos := "channel.go:75", after := #[], guard := none }) (v := .pointer (some ⟨gb, 0, none⟩)) rfl (by kernel_rfl) (by kernel_rfl) (by kernel_rfl) (by kernel_rfl) (fun _ _ _ h => h) (Or.inl ⟨by rfl, ?_⟩) hHeld ?_
    · intro w hSw
      obtain ⟨h0, h5⟩ := hSw
      first
        | rfl
        | (go_simp; done)
    try simp only [Act.put, List.setIfInBounds_toArray, List.set_cons_zero, List.set_cons_succ]
    refine wpAnyT_take (i := 1) (oi := { dst := some 12, op := Op.load 3 (Operand.tmp 11), type := 3, pos := "channel.go:75", after := #[{ on := 0, ground := Ground.data }], guard := none }) (v := .int .i64 c) rfl (by kernel_rfl) (by kernel_rfl) (by kernel_rfl) (by kernel_rfl) (fun _ _ _ h => h) (Or.inl ⟨by rfl, ?_⟩) hHeld ?_
    · intro w hSw
      obtain ⟨h0, h5⟩ := hSw
      first
        | rfl
        | (go_simp; done)
    try simp only [Act.put, List.setIfInBounds_toArray, List.set_cons_zero, List.set_cons_succ]
    refine wpAnyT_take (i := 2) (oi := { dst := some 13, op := Op.move (Operand.tmp 0), type := 23, pos := "channel.go:75", after := #[], guard := none }) (v := .pointer (some ⟨g, 0, none⟩)) rfl (by kernel_rfl) (by kernel_rfl) (by kernel_rfl) (by kernel_rfl) (fun _ _ _ h => h) (Or.inl ⟨by rfl, ?_⟩) hHeld ?_
    · intro w hSw
      obtain ⟨h0, h5⟩ := hSw
      first
        | rfl
        | (go_simp; done)
    try simp only [Act.put, List.setIfInBounds_toArray, List.set_cons_zero, List.set_cons_succ]
    refine wpAnyT_take (i := 3) (oi := { dst := some 14, op := Op.nilCheck (Operand.tmp 13), type := 0, pos := "channel.go:75", after := #[{ on := 2, ground := Ground.data }], guard := none }) (v := .pointer (some ⟨g, 0, none⟩)) rfl (by kernel_rfl) (by kernel_rfl) (by kernel_rfl) (by kernel_rfl) (fun _ _ _ h => h) (Or.inl ⟨by rfl, ?_⟩) hHeld ?_
    · intro w hSw
      obtain ⟨h0, h5⟩ := hSw
      first
        | rfl
        | (go_simp; done)
    try simp only [Act.put, List.setIfInBounds_toArray, List.set_cons_zero, List.set_cons_succ]
    refine wpAnyT_take (i := 4) (oi := { dst := some 15, op := Op.fieldAddr 80 (Operand.tmp 14) 2, type := 0, pos := "channel.go:75", after := #[{ on := 3, ground := Ground.data }], guard := none }) (v := .pointer (some ⟨g, 5, none⟩)) rfl (by kernel_rfl) (by kernel_rfl) (by kernel_rfl) (by kernel_rfl) (fun _ _ _ h => h) (Or.inl ⟨by rfl, ?_⟩) hHeld ?_
    · intro w hSw
      obtain ⟨h0, h5⟩ := hSw
      first
        | rfl
        | (go_simp; done)
    try simp only [Act.put, List.setIfInBounds_toArray, List.set_cons_zero, List.set_cons_succ]
    refine wpAnyT_take (i := 5) (oi := { dst := some 16, op := Op.load 3 (Operand.tmp 15), type := 3, pos := "channel.go:75", after := #[{ on := 4, ground := Ground.data }], guard := none }) (v := .int .i64 cn) rfl (by kernel_rfl) (by kernel_rfl) (by kernel_rfl) (by kernel_rfl) (fun _ _ _ h => h) (Or.inl ⟨by rfl, ?_⟩) hHeld ?_
    · intro w hSw
      obtain ⟨h0, h5⟩ := hSw
      first
        | rfl
        | (go_simp; done)
    try simp only [Act.put, List.setIfInBounds_toArray, List.set_cons_zero, List.set_cons_succ]
    refine wpAnyT_take (i := 6) (oi := { dst := some 17, op := Op.binOp BinOp.neq 3 (Operand.tmp 12) (Operand.tmp 16) 3, type := 4, pos := "channel.go:75", after := #[{ on := 1, ground := Ground.data }, { on := 5, ground := Ground.data }], guard := none }) (v := .bool false) rfl (by kernel_rfl) (by kernel_rfl) (by kernel_rfl) (by kernel_rfl) (fun _ _ _ h => h) (Or.inl ⟨by rfl, ?_⟩) hHeld ?_
    · intro w hSw
      obtain ⟨h0, h5⟩ := hSw
      first
        | rfl
        | (go_simp; done)
    try simp only [Act.put, List.setIfInBounds_toArray, List.set_cons_zero, List.set_cons_succ]
    refine wpAnyT_take (i := 7) (oi := { dst := some 10, op := Op.assign (Operand.tmp 17), type := 4, pos := "channel.go:75", after := #[{ on := 6, ground := Ground.data }], guard := none }) (v := .bool false) rfl (by kernel_rfl) (by kernel_rfl) (by kernel_rfl) (by kernel_rfl) (fun _ _ _ h => h) (Or.inl ⟨by rfl, ?_⟩) hHeld ?_
    · intro w hSw
      obtain ⟨h0, h5⟩ := hSw
      first
        | rfl
        | (go_simp; done)
    try simp only [Act.put, List.setIfInBounds_toArray, List.set_cons_zero, List.set_cons_succ]
    refine wpAnyT_done (by kernel_rfl) ?_ _
    have x0 : wd.cell? ⟨gb, 0, none⟩ = some (.int .i64 c) := (unhide HX1).cell 0
    have x1 : wd.cell? ⟨gb, 1, none⟩ = some (.int .i64 q) := (unhide HX1).cell 1
    have x2 : wd.cell? ⟨gb, 2, none⟩ = some (.int .i64 a) := (unhide HX1).cell 2
    have x3 : wd.cell? ⟨gb, 3, none⟩ = some (.slice ab b.length cb) := (unhide HX1).cell 3
    have HR := hide (TakeR.no (w' := wd) (c := c) (q := q) (a := a) (b := b) (unhide HH) (unhide HB1) (show takeE s c q a b.length = 120 from unhide HE1) (by decide))
    go_wp2_with fail
    go_ret2
    exact unhide HR
  have g5b : ((b.length : Int) == 0) = false := by simp [unhide HN, g5]
  have HBN : Hid (b ≠ []) := hide (fun e => g5 (by rw [← unhide HN, e]; rfl))
  have HQ0 : Hid (q ≠ 0) := hide g4
  have HE1 : Hid (takeE s c q a b.length = 0) := hide (by
    unfold takeE
    rw [if_neg (unhide HCC), if_neg]
    rintro (h | h | h)
    · exact g2 h
    · exact g3 h
    · exact h ⟨fun h => absurd h g4, fun h => absurd (by rw [← unhide HN]; exact h) g5⟩)
  clear g4 g5
  go_enter Try.func17, Try.ntmps17
  go_wp2_with fail
  refine Calls.mono (unhide K) ?_
  rintro r w' ⟨rfl, rfl⟩
  clear K
  go_wp2_with fail
  refine wp_region_T (S := fun W => W.cell? ⟨gb, 0, none⟩ = some (.int .i64 c) ∧ W.cell? ⟨g, 5, none⟩ = some (.int .i64 cn)) (fun i => decide (i < 8)) (by kernel_rfl) (by rw [← unhide HGB, ← unhide HCN]; exact ⟨(unhide HBX).cell 0, (unhide HC).row.cell 5⟩) (fun hHeld => ?_)
  have bd : Below (w.alloc (.cells #[.int .i64 c, .int .i64 q, .int .i64 a, .slice ab b.length cb] 34)).heap.size (w.alloc (.cells #[.int .i64 c, .int .i64 q, .int .i64 a, .slice ab b.length cb] 34)) (w.alloc (.cells #[.int .i64 c, .int .i64 q, .int .i64 a, .slice ab b.length cb] 34)).drew := Below.drew (Below.refl _ _)
  have HC1 := hide ((unhide HC).call bd)
  have HV1 := hide ((unhide HV).call bd)
  have HX1 := hide ((unhide HBX).drew)
  have HB1 : Hid (Below w.heap.size w (w.alloc (.cells #[.int .i64 c, .int .i64 q, .int .i64 a, .slice ab b.length cb] 34)).drew) := hide ((unhide HB0).trans (bd.mono (unhide HB0).size))
  rw [unhide HGB] at HX1
  obtain ⟨wd, hwd⟩ : ∃ z, (w.alloc (.cells #[.int .i64 c, .int .i64 q, .int .i64 a, .slice ab b.length cb] 34)).drew = z := ⟨_, rfl⟩
  rw [hwd] at HC1 HV1 HX1 HB1 hHeld ⊢
  rw [unhide HGB]
  clear hwd bd HC HV HBX HB0
  refine wpAnyT_take (i := 0) (oi := { dst := some 11, op := Op.fieldAddr 34 (Operand.tmp 3) 0, type := 0, pos := "channel.go:75", after := #[], guard := none }) (v := .pointer (some ⟨gb, 0, none⟩)) rfl (by kernel_rfl) (by kernel_rfl) (by kernel_rfl) (by kernel_rfl) (fun _ _ _ h => h) (Or.inl ⟨by rfl, ?_⟩) hHeld ?_
  · intro w hSw
    obtain ⟨h0, h5⟩ := hSw
    first
      | rfl
      | (go_simp; done)
  try simp only [Act.put, List.setIfInBounds_toArray, List.set_cons_zero, List.set_cons_succ]
  refine wpAnyT_take (i := 1) (oi := { dst := some 12, op := Op.load 3 (Operand.tmp 11), type := 3, pos := "channel.go:75", after := #[{ on := 0, ground := Ground.data }], guard := none }) (v := .int .i64 c) rfl (by kernel_rfl) (by kernel_rfl) (by kernel_rfl) (by kernel_rfl) (fun _ _ _ h => h) (Or.inl ⟨by rfl, ?_⟩) hHeld ?_
  · intro w hSw
    obtain ⟨h0, h5⟩ := hSw
    first
      | rfl
      | (go_simp; done)
  try simp only [Act.put, List.setIfInBounds_toArray, List.set_cons_zero, List.set_cons_succ]
  refine wpAnyT_take (i := 2) (oi := { dst := some 13, op := Op.move (Operand.tmp 0), type := 23, pos := "channel.go:75", after := #[], guard := none }) (v := .pointer (some ⟨g, 0, none⟩)) rfl (by kernel_rfl) (by kernel_rfl) (by kernel_rfl) (by kernel_rfl) (fun _ _ _ h => h) (Or.inl ⟨by rfl, ?_⟩) hHeld ?_
  · intro w hSw
    obtain ⟨h0, h5⟩ := hSw
    first
      | rfl
      | (go_simp; done)
  try simp only [Act.put, List.setIfInBounds_toArray, List.set_cons_zero, List.set_cons_succ]
  refine wpAnyT_take (i := 3) (oi := { dst := some 14, op := Op.nilCheck (Operand.tmp 13), type := 0, pos := "channel.go:75", after := #[{ on := 2, ground := Ground.data }], guard := none }) (v := .pointer (some ⟨g, 0, none⟩)) rfl (by kernel_rfl) (by kernel_rfl) (by kernel_rfl) (by kernel_rfl) (fun _ _ _ h => h) (Or.inl ⟨by rfl, ?_⟩) hHeld ?_
  · intro w hSw
    obtain ⟨h0, h5⟩ := hSw
    first
      | rfl
      | (go_simp; done)
  try simp only [Act.put, List.setIfInBounds_toArray, List.set_cons_zero, List.set_cons_succ]
  refine wpAnyT_take (i := 4) (oi := { dst := some 15, op := Op.fieldAddr 80 (Operand.tmp 14) 2, type := 0, pos := "channel.go:75", after := #[{ on := 3, ground := Ground.data }], guard := none }) (v := .pointer (some ⟨g, 5, none⟩)) rfl (by kernel_rfl) (by kernel_rfl) (by kernel_rfl) (by kernel_rfl) (fun _ _ _ h => h) (Or.inl ⟨by rfl, ?_⟩) hHeld ?_
  · intro w hSw
    obtain ⟨h0, h5⟩ := hSw
    first
      | rfl
      | (go_simp; done)
  try simp only [Act.put, List.setIfInBounds_toArray, List.set_cons_zero, List.set_cons_succ]
  refine wpAnyT_take (i := 5) (oi := { dst := some 16, op := Op.load 3 (Operand.tmp 15), type := 3, pos := "channel.go:75", after := #[{ on := 4, ground := Ground.data }], guard := none }) (v := .int .i64 cn) rfl (by kernel_rfl) (by kernel_rfl) (by kernel_rfl) (by kernel_rfl) (fun _ _ _ h => h) (Or.inl ⟨by rfl, ?_⟩) hHeld ?_
  · intro w hSw
    obtain ⟨h0, h5⟩ := hSw
    first
      | rfl
      | (go_simp; done)
  try simp only [Act.put, List.setIfInBounds_toArray, List.set_cons_zero, List.set_cons_succ]
  refine wpAnyT_take (i := 6) (oi := { dst := some 17, op := Op.binOp BinOp.neq 3 (Operand.tmp 12) (Operand.tmp 16) 3, type := 4, pos := "channel.go:75", after := #[{ on := 1, ground := Ground.data }, { on := 5, ground := Ground.data }], guard := none }) (v := .bool false) rfl (by kernel_rfl) (by kernel_rfl) (by kernel_rfl) (by kernel_rfl) (fun _ _ _ h => h) (Or.inl ⟨by rfl, ?_⟩) hHeld ?_
  · intro w hSw
    obtain ⟨h0, h5⟩ := hSw
    first
      | rfl
      | (go_simp; done)
  try simp only [Act.put, List.setIfInBounds_toArray, List.set_cons_zero, List.set_cons_succ]
  refine wpAnyT_take (i := 7) (oi := { dst := some 10, op := Op.assign (Operand.tmp 17), type := 4, pos := "channel.go:75", after := #[{ on := 6, ground := Ground.data }], guard := none }) (v := .bool false) rfl (by kernel_rfl) (by kernel_rfl) (by kernel_rfl) (by kernel_rfl) (fun _ _ _ h => h) (Or.inl ⟨by rfl, ?_⟩) hHeld ?_
  · intro w hSw
    obtain ⟨h0, h5⟩ := hSw
    first
      | rfl
      | (go_simp; done)
  try simp only [Act.put, List.setIfInBounds_toArray, List.set_cons_zero, List.set_cons_succ]
  refine wpAnyT_done (by kernel_rfl) ?_ _
  have x0 : wd.cell? ⟨gb, 0, none⟩ = some (.int .i64 c) := (unhide HX1).cell 0
  have x1 : wd.cell? ⟨gb, 1, none⟩ = some (.int .i64 q) := (unhide HX1).cell 1
  have x2 : wd.cell? ⟨gb, 2, none⟩ = some (.int .i64 a) := (unhide HX1).cell 2
  have x3 : wd.cell? ⟨gb, 3, none⟩ = some (.slice ab b.length cb) := (unhide HX1).cell 3
  go_wp2_with fail
  clear x0 x1 x2 x3 hHeld
  refine wp_region_T (S := fun W => W.cell? ⟨gb, 2, none⟩ = some (.int .i64 a)) (fun i => decide (i < 6)) (by kernel_rfl) ((unhide HX1).cell 2) (fun hHeld => ?_)
  have bd : Below wd.heap.size wd wd.drew := Below.drew (Below.refl _ _)
  have HC2 := hide ((unhide HC1).call bd)
  have HV2 := hide ((unhide HV1).call bd)
  have HX2 := hide ((unhide HX1).drew)
  have HT2 : Hid (Turn w wd.drew g m vq vq) := hide (Turn.below ((unhide HB1).trans (bd.mono (unhide HB1).size)))
  obtain ⟨we, hwe⟩ : ∃ z, wd.drew = z := ⟨_, rfl⟩
  rw [hwe] at HC2 HV2 HX2 HT2 hHeld ⊢
  clear hwe bd HC1 HV1 HX1 HB1
  refine wpAnyT_take (i := 0) (oi := { dst := some 37, op := Op.move (Operand.tmp 0), type := 23, pos := "channel.go:80", after := #[], guard := none }) (v := .pointer (some ⟨g, 0, none⟩)) rfl (by kernel_rfl) (by kernel_rfl) (by kernel_rfl) (by kernel_rfl) (fun _ _ _ h => h) (Or.inl ⟨by rfl, ?_⟩) hHeld ?_
  · intro w hSw
    obtain h2 := hSw
    first
      | rfl
      | (go_simp; done)
  try simp only [Act.put, List.setIfInBounds_toArray, List.set_cons_zero, List.set_cons_succ]
  refine wpAnyT_take (i := 1) (oi := { dst := some 38, op := Op.nilCheck (Operand.tmp 37), type := 0, pos := "channel.go:80", after := #[{ on := 0, ground := Ground.data }], guard := none }) (v := .pointer (some ⟨g, 0, none⟩)) rfl (by kernel_rfl) (by kernel_rfl) (by kernel_rfl) (by kernel_rfl) (fun _ _ _ h => h) (Or.inl ⟨by rfl, ?_⟩) hHeld ?_
  · intro w hSw
    obtain h2 := hSw
    first
      | rfl
      | (go_simp; done)
  try simp only [Act.put, List.setIfInBounds_toArray, List.set_cons_zero, List.set_cons_succ]
  refine wpAnyT_take (i := 2) (oi := { dst := some 39, op := Op.fieldAddr 80 (Operand.tmp 38) 0, type := 0, pos := "channel.go:80", after := #[{ on := 1, ground := Ground.data }], guard := none }) (v := .pointer (some ⟨g, 0, none⟩)) rfl (by kernel_rfl) (by kernel_rfl) (by kernel_rfl) (by kernel_rfl) (fun _ _ _ h => h) (Or.inl ⟨by rfl, ?_⟩) hHeld ?_
  · intro w hSw
    obtain h2 := hSw
    first
      | rfl
      | (go_simp; done)
  try simp only [Act.put, List.setIfInBounds_toArray, List.set_cons_zero, List.set_cons_succ]
  refine wpAnyT_take (i := 3) (oi := { dst := some 40, op := Op.fieldAddr 34 (Operand.tmp 3) 2, type := 0, pos := "channel.go:80", after := #[], guard := none }) (v := .pointer (some ⟨gb, 2, none⟩)) rfl (by kernel_rfl) (by kernel_rfl) (by kernel_rfl) (by kernel_rfl) (fun _ _ _ h => h) (Or.inl ⟨by rfl, ?_⟩) hHeld ?_
  · intro w hSw
    obtain h2 := hSw
    first
      | rfl
      | (go_simp; done)
  try simp only [Act.put, List.setIfInBounds_toArray, List.set_cons_zero, List.set_cons_succ]
  refine wpAnyT_take (i := 4) (oi := { dst := some 41, op := Op.load 3 (Operand.tmp 40), type := 3, pos := "channel.go:80", after := #[{ on := 3, ground := Ground.data }], guard := none }) (v := .int .i64 a) rfl (by kernel_rfl) (by kernel_rfl) (by kernel_rfl) (by kernel_rfl) (fun _ _ _ h => h) (Or.inl ⟨by rfl, ?_⟩) hHeld ?_
  · intro w hSw
    obtain h2 := hSw
    first
      | rfl
      | (go_simp; done)
  try simp only [Act.put, List.setIfInBounds_toArray, List.set_cons_zero, List.set_cons_succ]
  refine wpAnyT_one (i := 5) (o := { dst := some 42, op := Op.call { callee := Callee.value (Operand.func 41), args := #[Operand.tmp 39, Operand.tmp 41], argTypes := #[75, 3] }, type := 0, pos := "channel.go:80", after := #[{ on := 2, ground := Ground.data }, { on := 4, ground := Ground.data }], guard := none }) (by kernel_rfl) rfl (fun K hK => ?_)
  go_simp
  refine Calls.mono (ack_ok B g m vq s a we (unhide HC2) (unhide HOK).q) ?_
  rintro r w3 ⟨rfl, vq2, c3, t3⟩
  have HC3 : Hid (Ch w3 B g m vq2 (ackS s a)) := hide c3
  have HT3 := hide ((unhide HT2).trans t3)
  have HX3 := hide ((unhide HC2).keepRow (unhide HX2) (by decide) (by decide) t3.1)
  have HV3 := hide ((unhide HV2).keep (unhide HC2) t3.1)
  have hS3 : w3.cell? ⟨gb, 2, none⟩ = some (.int .i64 a) := (unhide HX3).cell 2
  clear c3 t3 HC2 HT2 HX2 HV2
  go_wp2_with fail
  refine hK.out _ _ (fun _ => hS3) ?_
  clear hK K
  clear hS3
  try simp only [Act.put, List.setIfInBounds_toArray, List.set_cons_zero, List.set_cons_succ]
  refine wpAnyT_done (by kernel_rfl) ?_ _
  have x0 : w3.cell? ⟨gb, 0, none⟩ = some (.int .i64 c) := (unhide HX3).cell 0
  have x1 : w3.cell? ⟨gb, 1, none⟩ = some (.int .i64 q) := (unhide HX3).cell 1
  have x2 : w3.cell? ⟨gb, 2, none⟩ = some (.int .i64 a) := (unhide HX3).cell 2
  have x3 : w3.cell? ⟨gb, 3, none⟩ = some (.slice ab b.length cb) := (unhide HX3).cell 3
  go_wp2_with fail
  clear x0 x1 x2 x3
  refine wp_region_T (S := fun W => W.cell? ⟨gb, 1, none⟩ = some (.int .i64 q) ∧ W.cell? ⟨gb, 3, none⟩ = some (.slice ab b.length cb)) (fun i => decide (i < 8)) (by kernel_rfl) ⟨(unhide HX3).cell 1, (unhide HX3).cell 3⟩ (fun hHeld => ?_)
  have bd : Below w3.heap.size w3 w3.drew := Below.drew (Below.refl _ _)
  have HC4 := hide ((unhide HC3).call bd)
  have HV4 := hide ((unhide HV3).call bd)
  have HX4 := hide ((unhide HX3).drew)
  have HT4 := hide ((unhide HT3).trans (Turn.below bd))
  obtain ⟨w4, hw4⟩ : ∃ z, w3.drew = z := ⟨_, rfl⟩
  rw [hw4] at HC4 HV4 HX4 HT4 hHeld ⊢
  clear hw4 bd HC3 HV3 HX3 HT3
  refine wpAnyT_take (i := 0) (oi := { dst := some 46, op := Op.move (Operand.tmp 0), type := 23, pos := "channel.go:84", after := #[], guard := none }) (v := .pointer (some ⟨g, 0, none⟩)) rfl (by kernel_rfl) (by kernel_rfl) (by kernel_rfl) (by kernel_rfl) (fun _ _ _ h => h) (Or.inl ⟨by rfl, ?_⟩) hHeld ?_
  · intro w hSw
    obtain ⟨h1, h3⟩ := hSw
    first
      | rfl
      | (go_simp; done)
  try simp only [Act.put, List.setIfInBounds_toArray, List.set_cons_zero, List.set_cons_succ]
  refine wpAnyT_take (i := 1) (oi := { dst := some 47, op := Op.nilCheck (Operand.tmp 46), type := 0, pos := "channel.go:84", after := #[{ on := 0, ground := Ground.data }], guard := none }) (v := .pointer (some ⟨g, 0, none⟩)) rfl (by kernel_rfl) (by kernel_rfl) (by kernel_rfl) (by kernel_rfl) (fun _ _ _ h => h) (Or.inl ⟨by rfl, ?_⟩) hHeld ?_
  · intro w hSw
    obtain ⟨h1, h3⟩ := hSw
    first
      | rfl
      | (go_simp; done)
  try simp only [Act.put, List.setIfInBounds_toArray, List.set_cons_zero, List.set_cons_succ]
  refine wpAnyT_take (i := 2) (oi := { dst := some 48, op := Op.fieldAddr 80 (Operand.tmp 47) 1, type := 0, pos := "channel.go:84", after := #[{ on := 1, ground := Ground.data }], guard := none }) (v := .pointer (some ⟨g, 2, none⟩)) rfl (by kernel_rfl) (by kernel_rfl) (by kernel_rfl) (by kernel_rfl) (fun _ _ _ h => h) (Or.inl ⟨by rfl, ?_⟩) hHeld ?_
  · intro w hSw
    obtain ⟨h1, h3⟩ := hSw
    first
      | rfl
      | (go_simp; done)
  try simp only [Act.put, List.setIfInBounds_toArray, List.set_cons_zero, List.set_cons_succ]
  refine wpAnyT_take (i := 3) (oi := { dst := some 49, op := Op.fieldAddr 34 (Operand.tmp 3) 1, type := 0, pos := "channel.go:84", after := #[], guard := none }) (v := .pointer (some ⟨gb, 1, none⟩)) rfl (by kernel_rfl) (by kernel_rfl) (by kernel_rfl) (by kernel_rfl) (fun _ _ _ h => h) (Or.inl ⟨by rfl, ?_⟩) hHeld ?_
  · intro w hSw
    obtain ⟨h1, h3⟩ := hSw
    first
      | rfl
      | (go_simp; done)
  try simp only [Act.put, List.setIfInBounds_toArray, List.set_cons_zero, List.set_cons_succ]
  refine wpAnyT_take (i := 4) (oi := { dst := some 50, op := Op.load 3 (Operand.tmp 49), type := 3, pos := "channel.go:84", after := #[{ on := 3, ground := Ground.data }], guard := none }) (v := .int .i64 q) rfl (by kernel_rfl) (by kernel_rfl) (by kernel_rfl) (by kernel_rfl) (fun _ _ _ h => h) (Or.inl ⟨by rfl, ?_⟩) hHeld ?_
  · intro w hSw
    obtain ⟨h1, h3⟩ := hSw
    first
      | rfl
      | (go_simp; done)
  try simp only [Act.put, List.setIfInBounds_toArray, List.set_cons_zero, List.set_cons_succ]
  refine wpAnyT_take (i := 5) (oi := { dst := some 51, op := Op.fieldAddr 34 (Operand.tmp 3) 3, type := 0, pos := "channel.go:84", after := #[], guard := none }) (v := .pointer (some ⟨gb, 3, none⟩)) rfl (by kernel_rfl) (by kernel_rfl) (by kernel_rfl) (by kernel_rfl) (fun _ _ _ h => h) (Or.inl ⟨by rfl, ?_⟩) hHeld ?_
  · intro w hSw
    obtain ⟨h1, h3⟩ := hSw
    first
      | rfl
      | (go_simp; done)
  try simp only [Act.put, List.setIfInBounds_toArray, List.set_cons_zero, List.set_cons_succ]
  refine wpAnyT_take (i := 6) (oi := { dst := some 52, op := Op.load 32 (Operand.tmp 51), type := 32, pos := "channel.go:84", after := #[{ on := 5, ground := Ground.data }], guard := none }) (v := .slice ab b.length cb) rfl (by kernel_rfl) (by kernel_rfl) (by kernel_rfl) (by kernel_rfl) (fun _ _ _ h => h) (Or.inl ⟨by rfl, ?_⟩) hHeld ?_
  · intro w hSw
    obtain ⟨h1, h3⟩ := hSw
    first
      | rfl
      | (go_simp; done)
  try simp only [Act.put, List.setIfInBounds_toArray, List.set_cons_zero, List.set_cons_succ]
  refine wpAnyT_one (i := 7) (o := { dst := some 53, op := Op.call { callee := Callee.value (Operand.func 42), args := #[Operand.tmp 48, Operand.tmp 50, Operand.tmp 52], argTypes := #[78, 3, 32] }, type := 0, pos := "channel.go:84", after := #[{ on := 2, ground := Ground.data }, { on := 4, ground := Ground.data }, { on := 6, ground := Ground.data }], guard := none }) (by kernel_rfl) rfl (fun K hK => ?_)
  go_simp
  refine Calls.mono (keep_ok B g m vq2 _ (ackS s a) q b w4 (unhide HC4) (unhide HEO) (unhide HV4) hbl g2i hq1 (by have := (unhide HOK).w0; show 0 < s.want; omega) (by have := (unhide HOK).w1; show s.want ≤ _; omega)) ?_
  rintro r w5 ⟨rfl, v5, c5, t5⟩
  have HC5 := hide c5
  have HT5 := hide ((unhide HT4).trans t5)
  have HX5 := hide ((unhide HC4).keepRow (unhide HX4) (by decide) (by decide) t5.1)
  have hS5 := And.intro ((unhide HX5).cell 1) ((unhide HX5).cell 3)
  clear c5 t5 HC4 HV4 HX4 HT4
  go_wp2_with fail
  refine hK.out _ _ (fun _ => hS5) ?_
  clear hK K
  clear hS5
  try simp only [Act.put, List.setIfInBounds_toArray, List.set_cons_zero, List.set_cons_succ]
  refine wpAnyT_done (by kernel_rfl) ?_ _
  go_wp2_with fail
  refine Calls.mono (tell_ok B g m vq2 (keepS (ackS s a) q v5 b) w5 (unhide HC5) (EOk.keep (s := ackS s a) (unhide HEO) (unhide HBN)) (by rw [keepS_want]; have := (unhide HOK).w0; show 0 < s.want; omega) (by rw [keepS_want]; exact (unhide HOK).w1) (Nat.le_trans (keepS_len (ackS s a) q v5 b) (by have := unhide HEL; show s.early.length + 1 ≤ 100000; omega))) ?_
  intro r w6 h6
  obtain ⟨l6, rfl, h7⟩ := h6.shape
  have HR := hide (take_tell (unhide HE1) (unhide HQ0) (unhide HC5) (unhide HT5) h7)
  clear h6 h7
  go_wp2_with fail
  go_ret2
  exact unhide HR
end Go.Proofs.Ytmkpphkdaiienaa
