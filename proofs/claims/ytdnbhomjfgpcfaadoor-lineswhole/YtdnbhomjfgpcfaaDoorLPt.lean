/- A patch: Put. -/
import Derived.Test.YtdnbhomjfgpcfaaDoorLMv
import Derived.Maps.AppendAt
namespace Go.Proofs.YtdnbhomjfgpcfaaDoor
set_option linter.unusedVariables false
set_option linter.unusedSimpArgs false
open Go.ChangeShapes Go.WideShapes Go.ChangeAt Go.RowKit Go.Joins Go.Deep

theorem run_append_none {P : Program} (w : World) (t ty e : TypeId) (i : TypeInfo) (ht : P.underlying t = some (.slice e)) (hi : P.info? e = some i) (base : Option Addr) (sLen sCap c : Nat) (hle : sLen ≤ sCap) :
    (Builtin.append_ #[t, t] ty #[.slice base sLen sCap, .slice none 0 c]).run P w = .ok (.slice base sLen sCap) w := by
  cases base <;> simp [Builtin.append_, run_underlying ht, sizeOf, typeInfo, hi, Builtin.lenOf, Builtin.firstCells, loadCells, loadCellsFrom, hle, storeCells]
theorem run_app_src {P : Program} (w : World) (base : Nat) (t ty e : TypeId) (i : TypeInfo) (z : Value) (size bytes : Nat) (ht : P.underlying t = some (.slice e)) (hi : P.info? e = some i) (hz : i.zero = some z)
    (hsize : i.size = size) (hby : i.bytes = bytes) (hzs : z.cells.size = size) (hsz : 0 < size)
    (v : Value) (n : Nat) (xs : List Value) (hown : w.ownsRow base e size v n xs)
    (ad : Option Addr) (m c : Nat) (news : List Value) (hl : news.length = m * size) (hnone : ad = none → m = 0) (hnews : ∀ b, ad = some b → ∀ j u, news[j]? = some u → w.cell? (b.add j) = some u) (h1 : ∀ u ∈ news, u.oneCell' = true)
    (h63 : n + m ≤ maxLen) (hbytes : (n + m) * bytes ≤ 140737488355328) (hbase : base ≤ w.heap.size) :
    ∃ v' w', (Builtin.append_ #[t, t] ty #[v, .slice ad m c]).run P w = .ok v' w' ∧ w'.ownsRow base e size v' (n + m) (xs ++ news) ∧ Only (fun k => v.ownBlock = some k) w w' ∧ ∀ k, v'.ownBlock = some k → v.ownBlock = some k ∨ w.heap.size ≤ k := by
  cases ad with
  | none =>
    have hm := hnone rfl
    subst hm
    have hn0 : news = [] := List.eq_nil_of_length_eq_zero (by simpa using hl)
    subst hn0
    obtain ⟨b, cap, hv, hle⟩ : ∃ b cap, v = .slice b n cap ∧ n ≤ cap := by
      rcases hown.2 with ⟨rfl, rfl⟩ | ⟨g, cap, cur, rfl, _, _, hle, _⟩
      · exact ⟨none, 0, rfl, Nat.le_refl _⟩
      · exact ⟨_, cap, rfl, hle⟩
    subst hv
    exact ⟨_, w, run_append_none w t ty e i ht hi b n cap c hle, by simpa using hown, Only.refl _ _, fun k hk => .inl hk⟩
  | some b =>
    obtain ⟨v', w', hr, h2, h3, _, h4⟩ := run_append_own_at (P := P) w base t ty e i z size bytes ht hi hz hsize hby hzs hsz v n xs hown b m c news hl (hnews b rfl) h1 h63 hbytes hbase
    exact ⟨v', w', hr, h2, grown_only h3, fun k hk => by
      rcases h4 with e | e
      · rw [e] at hk; exact .inl hk
      · rw [e] at hk; injection hk with hk; exact .inr (by omega)⟩
theorem wp_app_src {o : Oper} {a : Act} {K : Act → World → Prop} {Q : Exit → Act → World → Prop} {w : World} (s x : Operand) (t e : TypeId) (z : Value) (size bytes : Nat) (ht : Tryd.prog.underlying t = some (.slice e))
    (hin : (Tryd.prog.info? e).map (fun i => (i.zero, i.size, i.bytes)) = some (some z, size, bytes)) (hzs : z.cells.size = size) (hsz : 0 < size)
    (ho : o.op = .call { callee := .builtin .append, args := #[s, x], argTypes := #[t, t] }) (base : Nat) (v : Value) (n : Nat) (xs : List Value) (hs : a.eval s = v) (hown : w.ownsRow base e size v n xs)
    (ad : Option Addr) (m c : Nat) (news : List Value) (hx : a.eval x = .slice ad m c) (hl : news.length = m * size) (hnone : ad = none → m = 0) (hnews : ∀ b, ad = some b → ∀ j u, news[j]? = some u → w.cell? (b.add j) = some u) (h1 : ∀ u ∈ news, u.oneCell' = true)
    (h63 : n + m ≤ maxLen) (hbytes : (n + m) * bytes ≤ 140737488355328) (hbase : base ≤ w.heap.size)
    (h : ∀ v' w', w'.ownsRow base e size v' (n + m) (xs ++ news) → Only (fun k => v.ownBlock = some k) w w' → (∀ k, v'.ownBlock = some k → v.ownBlock = some k ∨ w.heap.size ≤ k) → K (a.put o.dst v') w') : o.wp Tryd.prog a w K Q := by
  obtain ⟨i, hi, hz, hsize, hby⟩ := info_parts hin
  obtain ⟨v', w', hr, h2, h3, h4⟩ := run_app_src w base t o.type e i z size bytes ht hi hz hsize hby hzs hsz v n xs hown ad m c news hl hnone hnews h1 h63 hbytes hbase
  unfold Oper.wp execOp
  simp only [ho, resolve, invoke, builtin, Sem.run_bind, Sem.run_pure, Result.andThen_ok, List.map_toArray, List.map_cons, List.map_nil, hs, hx, hr]
  exact h v' w' h2 h3 h4
theorem infoPt : (Tryd.prog.info? 91).map (fun i => (i.zero, i.size, i.bytes)) = some (some (.agg #[.int .i64 0, .int .i64 0, .string ⟨#[]⟩]), 3, 32) := by kernel_rfl
def putL (L : List Pt) (A F T n : Nat) (s : ByteArray) : List Pt := L ++ [⟨1, (F : Int) - (A : Int), ⟨#[]⟩⟩, ⟨2, (n : Int), s⟩, ⟨3, (T : Int) - (F : Int), ⟨#[]⟩⟩]
structure Pa (w : World) (B gp : Nat) (v : Value) (A : Nat) (L : List Pt) : Prop where
  row : RowAt w gp 87 [.int .i64 (A : Int), v]
  parts : w.ownsRow B 91 3 v L.length (ptc L)
  gB : B ≤ gp
def PutR (B gp T : Nat) (v : Value) (L : List Pt) (w : World) (r : Ending) (w' : World) : Prop := ∃ v', r = .returned (.tuple #[]) ∧ Pa w' B gp v' T L ∧ Only (fun k => k = gp ∨ v.ownBlock = some k) w w'
theorem own_sl3 {w : World} {B e k n : Nat} {v : Value} {xs : List Value} (h : w.ownsRow B e k v n xs) : ∃ a c, v = .slice a n c ∧ n ≤ c ∧ c ≤ maxLen := by
  rcases h.2 with ⟨rfl, h0⟩ | ⟨g, cap, cur, rfl, e2, e3, e4, e5, e6⟩
  · exact ⟨none, 0, by rw [h0], by omega, by unfold maxLen; omega⟩
  · exact ⟨_, _, rfl, e4, e5⟩
theorem Pa.call {w w' : World} {B gp A : Nat} {v : Value} {L : List Pt} (h : Pa w B gp v A L) (hb : Below w.heap.size w w') : Pa w' B gp v A L := ⟨h.row.below hb h.row.lt, own_call h.parts hb, h.gB⟩
set_option maxRecDepth 100000 in
set_option maxHeartbeats 4000000 in
theorem put_ok (B gp A F T n : Nat) (v : Value) (L : List Pt) (s : ByteArray) (w : World) (h : Pa w B gp v A L) (hc : Lib.runeCount s = n) (hs : s.size ≤ 1099511627776) (h1 : A ≤ F) (h2 : F ≤ T) (h3 : T ≤ 1099511627776) (hl : L.length ≤ 4398046511) :
    Calls Tryd.prog 56 #[.pointer (some ⟨gp, 0, none⟩), .int .i64 (F : Int), .int .i64 (T : Int), .string s] w fun r w' => PutR B gp T v (putL L A F T n s) w r w' := by
  obtain ⟨ap, cp, rfl, hpc, hpm⟩ := own_sl3 h.parts
  obtain ⟨nl, hnl⟩ : ∃ z, L.length = z := ⟨_, rfl⟩
  have KC := hide (fun W => counts_any s W (by omega))
  rw [hc] at KC
  rw [hnl] at h hpc hl ⊢
  have HNL := hide hnl
  have H := hide h
  have q1 : w.cell? ⟨gp, 1, none⟩ = some (.slice ap nl cp) := h.row.cell 1
  have q0 : w.cell? ⟨gp, 0, none⟩ = some (.int .i64 (A : Int)) := h.row.cell 0
  have HD := hide ((unhide H).call ((Below.refl _ _).drew))
  have BD := hide ((Below.refl w.heap.size w).drew)
  clear h hnl hc
  go_enter Tryd.func56, Tryd.ntmps56
  go_wp2_with fail
  refine wp_region_T (S := fun W => W.cell? ⟨gp, 1, none⟩ = some (.slice ap nl cp) ∧ W.cell? ⟨gp, 0, none⟩ = some (.int .i64 (A : Int))) (fun i => decide (i < 22)) (by kernel_rfl) ⟨q1, q0⟩ (fun hHeld => ?_)
  refine wpAnyT_take (i := 0) (oi := { dst := some 8, op := Op.move (Operand.tmp 0), type := 119, pos := "text.go:30", after := #[], guard := none }) (v := .pointer (some ⟨gp, 0, none⟩)) rfl (by kernel_rfl) (by kernel_rfl) (by kernel_rfl) (by kernel_rfl) (fun _ _ _ h => h) (Or.inl ⟨by rfl, ?_⟩) hHeld ?_
  · intro w hSw
    obtain ⟨hp1, hp0⟩ := hSw
    first
      | rfl
      | (go_simp; done)
      | (go_simp; rw [IntKind.wrap_i64]; omega)
  try simp only [Act.put, List.setIfInBounds_toArray, List.set_cons_zero, List.set_cons_succ]
  refine wpAnyT_take (i := 1) (oi := { dst := some 9, op := Op.move (Operand.tmp 0), type := 119, pos := "text.go:30", after := #[], guard := none }) (v := .pointer (some ⟨gp, 0, none⟩)) rfl (by kernel_rfl) (by kernel_rfl) (by kernel_rfl) (by kernel_rfl) (fun _ _ _ h => h) (Or.inl ⟨by rfl, ?_⟩) hHeld ?_
  · intro w hSw
    obtain ⟨hp1, hp0⟩ := hSw
    first
      | rfl
      | (go_simp; done)
      | (go_simp; rw [IntKind.wrap_i64]; omega)
  try simp only [Act.put, List.setIfInBounds_toArray, List.set_cons_zero, List.set_cons_succ]
  refine wpAnyT_take (i := 2) (oi := { dst := some 10, op := Op.nilCheck (Operand.tmp 9), type := 0, pos := "text.go:30", after := #[{ on := 1, ground := Ground.data }], guard := none }) (v := .pointer (some ⟨gp, 0, none⟩)) rfl (by kernel_rfl) (by kernel_rfl) (by kernel_rfl) (by kernel_rfl) (fun _ _ _ h => h) (Or.inl ⟨by rfl, ?_⟩) hHeld ?_
  · intro w hSw
    obtain ⟨hp1, hp0⟩ := hSw
    first
      | rfl
      | (go_simp; done)
      | (go_simp; rw [IntKind.wrap_i64]; omega)
  try simp only [Act.put, List.setIfInBounds_toArray, List.set_cons_zero, List.set_cons_succ]
  refine wpAnyT_take (i := 3) (oi := { dst := some 11, op := Op.fieldAddr 87 (Operand.tmp 10) 1, type := 0, pos := "text.go:30", after := #[{ on := 2, ground := Ground.data }], guard := none }) (v := .pointer (some ⟨gp, 1, none⟩)) rfl (by kernel_rfl) (by kernel_rfl) (by kernel_rfl) (by kernel_rfl) (fun _ _ _ h => h) (Or.inl ⟨by rfl, ?_⟩) hHeld ?_
  · intro w hSw
    obtain ⟨hp1, hp0⟩ := hSw
    first
      | rfl
      | (go_simp; done)
      | (go_simp; rw [IntKind.wrap_i64]; omega)
  try simp only [Act.put, List.setIfInBounds_toArray, List.set_cons_zero, List.set_cons_succ]
  refine wpAnyT_take (i := 4) (oi := { dst := some 12, op := Op.load 51 (Operand.tmp 11), type := 51, pos := "text.go:30", after := #[{ on := 3, ground := Ground.data }], guard := none }) (v := .slice ap nl cp) rfl (by kernel_rfl) (by kernel_rfl) (by kernel_rfl) (by kernel_rfl) (fun _ _ _ h => h) (Or.inl ⟨by rfl, ?_⟩) hHeld ?_
  · intro w hSw
    obtain ⟨hp1, hp0⟩ := hSw
    first
      | rfl
      | (go_simp; done)
      | (go_simp; rw [IntKind.wrap_i64]; omega)
  try simp only [Act.put, List.setIfInBounds_toArray, List.set_cons_zero, List.set_cons_succ]
  refine wpAnyT_take (i := 5) (oi := { dst := some 13, op := Op.move (Operand.tmp 1), type := 3, pos := "text.go:30", after := #[], guard := none }) (v := .int .i64 (F : Int)) rfl (by kernel_rfl) (by kernel_rfl) (by kernel_rfl) (by kernel_rfl) (fun _ _ _ h => h) (Or.inl ⟨by rfl, ?_⟩) hHeld ?_
  · intro w hSw
    obtain ⟨hp1, hp0⟩ := hSw
    first
      | rfl
      | (go_simp; done)
      | (go_simp; rw [IntKind.wrap_i64]; omega)
  try simp only [Act.put, List.setIfInBounds_toArray, List.set_cons_zero, List.set_cons_succ]
  refine wpAnyT_take (i := 6) (oi := { dst := some 14, op := Op.move (Operand.tmp 0), type := 119, pos := "text.go:30", after := #[], guard := none }) (v := .pointer (some ⟨gp, 0, none⟩)) rfl (by kernel_rfl) (by kernel_rfl) (by kernel_rfl) (by kernel_rfl) (fun _ _ _ h => h) (Or.inl ⟨by rfl, ?_⟩) hHeld ?_
  · intro w hSw
    obtain ⟨hp1, hp0⟩ := hSw
    first
      | rfl
      | (go_simp; done)
      | (go_simp; rw [IntKind.wrap_i64]; omega)
  try simp only [Act.put, List.setIfInBounds_toArray, List.set_cons_zero, List.set_cons_succ]
  refine wpAnyT_take (i := 7) (oi := { dst := some 15, op := Op.nilCheck (Operand.tmp 14), type := 0, pos := "text.go:30", after := #[{ on := 6, ground := Ground.data }], guard := none }) (v := .pointer (some ⟨gp, 0, none⟩)) rfl (by kernel_rfl) (by kernel_rfl) (by kernel_rfl) (by kernel_rfl) (fun _ _ _ h => h) (Or.inl ⟨by rfl, ?_⟩) hHeld ?_
  · intro w hSw
    obtain ⟨hp1, hp0⟩ := hSw
    first
      | rfl
      | (go_simp; done)
      | (go_simp; rw [IntKind.wrap_i64]; omega)
  try simp only [Act.put, List.setIfInBounds_toArray, List.set_cons_zero, List.set_cons_succ]
  refine wpAnyT_take (i := 8) (oi := { dst := some 16, op := Op.fieldAddr 87 (Operand.tmp 15) 0, type := 0, pos := "text.go:30", after := #[{ on := 7, ground := Ground.data }], guard := none }) (v := .pointer (some ⟨gp, 0, none⟩)) rfl (by kernel_rfl) (by kernel_rfl) (by kernel_rfl) (by kernel_rfl) (fun _ _ _ h => h) (Or.inl ⟨by rfl, ?_⟩) hHeld ?_
  · intro w hSw
    obtain ⟨hp1, hp0⟩ := hSw
    first
      | rfl
      | (go_simp; done)
      | (go_simp; rw [IntKind.wrap_i64]; omega)
  try simp only [Act.put, List.setIfInBounds_toArray, List.set_cons_zero, List.set_cons_succ]
  refine wpAnyT_take (i := 9) (oi := { dst := some 17, op := Op.load 3 (Operand.tmp 16), type := 3, pos := "text.go:30", after := #[{ on := 8, ground := Ground.data }], guard := none }) (v := .int .i64 (A : Int)) rfl (by kernel_rfl) (by kernel_rfl) (by kernel_rfl) (by kernel_rfl) (fun _ _ _ h => h) (Or.inl ⟨by rfl, ?_⟩) hHeld ?_
  · intro w hSw
    obtain ⟨hp1, hp0⟩ := hSw
    first
      | rfl
      | (go_simp; done)
      | (go_simp; rw [IntKind.wrap_i64]; omega)
  try simp only [Act.put, List.setIfInBounds_toArray, List.set_cons_zero, List.set_cons_succ]
  refine wpAnyT_take (i := 10) (oi := { dst := some 18, op := Op.binOp BinOp.sub 3 (Operand.tmp 13) (Operand.tmp 17) 3, type := 3, pos := "text.go:30", after := #[{ on := 5, ground := Ground.data }, { on := 9, ground := Ground.data }], guard := none }) (v := .int .i64 ((F : Int) - (A : Int))) rfl (by kernel_rfl) (by kernel_rfl) (by kernel_rfl) (by kernel_rfl) (fun _ _ _ h => h) (Or.inl ⟨by rfl, ?_⟩) hHeld ?_
  · intro w hSw
    obtain ⟨hp1, hp0⟩ := hSw
    first
      | rfl
      | (go_simp; done)
      | (go_simp; rw [IntKind.wrap_i64]; omega)
  try simp only [Act.put, List.setIfInBounds_toArray, List.set_cons_zero, List.set_cons_succ]
  refine wpAnyT_take (i := 11) (oi := { dst := some 19, op := Op.build 91 #[(0, Operand.const (Value.int IntKind.i64 1)), (1, Operand.tmp 18)], type := 91, pos := "text.go:30", after := #[{ on := 10, ground := Ground.data }], guard := none }) (v := .agg #[.int .i64 1, .int .i64 ((F : Int) - (A : Int)), .string ⟨#[]⟩]) rfl (by kernel_rfl) (by kernel_rfl) (by kernel_rfl) (by kernel_rfl) (fun _ _ _ h => h) (Or.inl ⟨by rfl, ?_⟩) hHeld ?_
  · intro w hSw
    obtain ⟨hp1, hp0⟩ := hSw
    first
      | rfl
      | (go_simp; done)
      | (go_simp; rw [IntKind.wrap_i64]; omega)
  try simp only [Act.put, List.setIfInBounds_toArray, List.set_cons_zero, List.set_cons_succ]
  refine wpAnyT_take (i := 12) (oi := { dst := some 20, op := Op.move (Operand.tmp 3), type := 9, pos := "text.go:30", after := #[], guard := none }) (v := .string s) rfl (by kernel_rfl) (by kernel_rfl) (by kernel_rfl) (by kernel_rfl) (fun _ _ _ h => h) (Or.inl ⟨by rfl, ?_⟩) hHeld ?_
  · intro w hSw
    obtain ⟨hp1, hp0⟩ := hSw
    first
      | rfl
      | (go_simp; done)
      | (go_simp; rw [IntKind.wrap_i64]; omega)
  try simp only [Act.put, List.setIfInBounds_toArray, List.set_cons_zero, List.set_cons_succ]
  refine wpAnyT_take (i := 14) (oi := { dst := some 22, op := Op.move (Operand.tmp 3), type := 9, pos := "text.go:30", after := #[], guard := none }) (v := .string s) rfl (by kernel_rfl) (by kernel_rfl) (by kernel_rfl) (by kernel_rfl) (fun _ _ _ h => h) (Or.inl ⟨by rfl, ?_⟩) hHeld ?_
  · intro w hSw
    obtain ⟨hp1, hp0⟩ := hSw
    first
      | rfl
      | (go_simp; done)
      | (go_simp; rw [IntKind.wrap_i64]; omega)
  try simp only [Act.put, List.setIfInBounds_toArray, List.set_cons_zero, List.set_cons_succ]
  refine wpAnyT_take (i := 16) (oi := { dst := some 24, op := Op.move (Operand.tmp 2), type := 3, pos := "text.go:30", after := #[], guard := none }) (v := .int .i64 (T : Int)) rfl (by kernel_rfl) (by kernel_rfl) (by kernel_rfl) (by kernel_rfl) (fun _ _ _ h => h) (Or.inl ⟨by rfl, ?_⟩) hHeld ?_
  · intro w hSw
    obtain ⟨hp1, hp0⟩ := hSw
    first
      | rfl
      | (go_simp; done)
      | (go_simp; rw [IntKind.wrap_i64]; omega)
  try simp only [Act.put, List.setIfInBounds_toArray, List.set_cons_zero, List.set_cons_succ]
  refine wpAnyT_take (i := 17) (oi := { dst := some 25, op := Op.move (Operand.tmp 1), type := 3, pos := "text.go:30", after := #[], guard := none }) (v := .int .i64 (F : Int)) rfl (by kernel_rfl) (by kernel_rfl) (by kernel_rfl) (by kernel_rfl) (fun _ _ _ h => h) (Or.inl ⟨by rfl, ?_⟩) hHeld ?_
  · intro w hSw
    obtain ⟨hp1, hp0⟩ := hSw
    first
      | rfl
      | (go_simp; done)
      | (go_simp; rw [IntKind.wrap_i64]; omega)
  try simp only [Act.put, List.setIfInBounds_toArray, List.set_cons_zero, List.set_cons_succ]
  refine wpAnyT_take (i := 18) (oi := { dst := some 26, op := Op.binOp BinOp.sub 3 (Operand.tmp 24) (Operand.tmp 25) 3, type := 3, pos := "text.go:30", after := #[{ on := 16, ground := Ground.data }, { on := 17, ground := Ground.data }], guard := none }) (v := .int .i64 ((T : Int) - (F : Int))) rfl (by kernel_rfl) (by kernel_rfl) (by kernel_rfl) (by kernel_rfl) (fun _ _ _ h => h) (Or.inl ⟨by rfl, ?_⟩) hHeld ?_
  · intro w hSw
    obtain ⟨hp1, hp0⟩ := hSw
    first
      | rfl
      | (go_simp; done)
      | (go_simp; rw [IntKind.wrap_i64]; omega)
  try simp only [Act.put, List.setIfInBounds_toArray, List.set_cons_zero, List.set_cons_succ]
  refine wpAnyT_take (i := 19) (oi := { dst := some 27, op := Op.build 91 #[(0, Operand.const (Value.int IntKind.i64 3)), (1, Operand.tmp 26)], type := 91, pos := "text.go:30", after := #[{ on := 18, ground := Ground.data }], guard := none }) (v := .agg #[.int .i64 3, .int .i64 ((T : Int) - (F : Int)), .string ⟨#[]⟩]) rfl (by kernel_rfl) (by kernel_rfl) (by kernel_rfl) (by kernel_rfl) (fun _ _ _ h => h) (Or.inl ⟨by rfl, ?_⟩) hHeld ?_
  · intro w hSw
    obtain ⟨hp1, hp0⟩ := hSw
    first
      | rfl
      | (go_simp; done)
      | (go_simp; rw [IntKind.wrap_i64]; omega)
  try simp only [Act.put, List.setIfInBounds_toArray, List.set_cons_zero, List.set_cons_succ]
  refine wpAnyT_one (i := 13) (o := { dst := some 21, op := Op.call { callee := Callee.value (Operand.func 39), args := #[Operand.tmp 20], argTypes := #[9] }, type := 3, pos := "text.go:32", after := #[{ on := 12, ground := Ground.data }], guard := none }) (by kernel_rfl) rfl (fun K hK => ?_)
  go_simp
  refine Calls.mono (unhide KC _) ?_
  rintro r w2 ⟨rfl, b2⟩
  have H2 := hide ((unhide HD).call b2)
  have B2 := hide ((unhide BD).trans b2)
  have hS2 : w2.cell? ⟨gp, 1, none⟩ = some (.slice ap nl cp) ∧ w2.cell? ⟨gp, 0, none⟩ = some (.int .i64 (A : Int)) := ⟨(unhide H2).row.cell 1, (unhide H2).row.cell 0⟩
  clear b2
  go_wp2_with fail
  refine hK.out _ _ (fun _ => hS2) ?_
  clear hK K
  try simp only [Act.put, List.setIfInBounds_toArray, List.set_cons_zero, List.set_cons_succ]
  refine wpAnyT_take (i := 15) (oi := { dst := some 23, op := Op.build 91 #[(0, Operand.const (Value.int IntKind.i64 2)), (1, Operand.tmp 21), (2, Operand.tmp 22)], type := 91, pos := "text.go:30", after := #[{ on := 13, ground := Ground.data }, { on := 14, ground := Ground.data }], guard := none }) (v := .agg #[.int .i64 2, .int .i64 (n : Int), .string s]) rfl (by kernel_rfl) (by kernel_rfl) (by kernel_rfl) (by kernel_rfl) (fun _ _ _ h => h) (Or.inl ⟨by rfl, ?_⟩) hS2 ?_
  · intro w hSw
    obtain ⟨hp1, hp0⟩ := hSw
    first
      | rfl
      | (go_simp; done)
      | (go_simp; rw [IntKind.wrap_i64]; omega)
  try simp only [Act.put, List.setIfInBounds_toArray, List.set_cons_zero, List.set_cons_succ]
  refine wpAnyT_one (i := 20) (o := { dst := some 28, op := Op.buildSlice 51 3 #[(0, Operand.tmp 19), (1, Operand.tmp 23), (2, Operand.tmp 27)], type := 51, pos := "text.go:30", after := #[{ on := 11, ground := Ground.data }, { on := 15, ground := Ground.data }, { on := 19, ground := Ground.data }], guard := none }) (by kernel_rfl) rfl (fun K hK => ?_)
  go_simp
  have b3 : Below w2.heap.size w2 (w2.alloc (.cells #[.int .i64 1, .int .i64 ((F : Int) - (A : Int)), .string ⟨#[]⟩, .int .i64 2, .int .i64 (n : Int), .string s, .int .i64 3, .int .i64 ((T : Int) - (F : Int)), .string ⟨#[]⟩] 91)) := (Below.refl _ _).alloc (Nat.le_refl _) _
  have HN := hide (RowAt.new w2 91 [.int .i64 1, .int .i64 ((F : Int) - (A : Int)), .string ⟨#[]⟩, .int .i64 2, .int .i64 (n : Int), .string s, .int .i64 3, .int .i64 ((T : Int) - (F : Int)), .string ⟨#[]⟩])
  have H3 := hide ((unhide H2).call b3)
  have B3 := hide ((unhide B2).trans (b3.mono (unhide B2).size))
  obtain ⟨w3, hw3⟩ : ∃ z, w2.alloc (.cells #[.int .i64 1, .int .i64 ((F : Int) - (A : Int)), .string ⟨#[]⟩, .int .i64 2, .int .i64 (n : Int), .string s, .int .i64 3, .int .i64 ((T : Int) - (F : Int)), .string ⟨#[]⟩] 91) = z := ⟨_, rfl⟩
  obtain ⟨g2, hg2⟩ : ∃ z, w2.heap.size = z := ⟨_, rfl⟩
  try rw [hw3]
  rw [hw3] at HN H3 B3
  try rw [hg2]
  rw [hg2] at HN
  have hS3 : w3.cell? ⟨gp, 1, none⟩ = some (.slice ap nl cp) ∧ w3.cell? ⟨gp, 0, none⟩ = some (.int .i64 (A : Int)) := ⟨(unhide H3).row.cell 1, (unhide H3).row.cell 0⟩
  clear b3 hw3 hg2
  refine hK.out _ _ (fun _ => hS3) ?_
  clear hK K
  try simp only [Act.put, List.setIfInBounds_toArray, List.set_cons_zero, List.set_cons_succ]
  refine wpAnyT_one (i := 21) (o := { dst := some 29, op := Op.call { callee := Callee.builtin Builtin.append, args := #[Operand.tmp 12, Operand.tmp 28], argTypes := #[51, 51] }, type := 51, pos := "text.go:30", after := #[{ on := 4, ground := Ground.data }, { on := 20, ground := Ground.data }, { on := 13, ground := Ground.chain }], guard := none }) (by kernel_rfl) rfl (fun K hK => ?_)
  refine wp_app_src (Operand.tmp 12) (Operand.tmp 28) 51 91 _ 3 32 Tryd.underlying51 infoPt (by simp [Value.cells]) (by decide) rfl B (.slice ap nl cp) nl (ptc L) rfl (by have h9 := (unhide H3).parts; rw [unhide HNL] at h9; exact h9) (some ⟨g2, 0, none⟩) 3 3 [.int .i64 1, .int .i64 ((F : Int) - (A : Int)), .string ⟨#[]⟩, .int .i64 2, .int .i64 (n : Int), .string s, .int .i64 3, .int .i64 ((T : Int) - (F : Int)), .string ⟨#[]⟩] rfl rfl (fun e => by cases e) (fun b9 hb9 j u hu => by injection hb9 with hb9; subst hb9; rw [Addr.add_lit, Nat.zero_add, (unhide HN).cell]; exact hu) (fun u hu => by simp at hu; rcases hu with rfl | rfl | rfl | rfl | rfl | rfl | rfl | rfl | rfl <;> rfl) (by unfold maxLen; omega) (by omega) (Nat.le_trans (unhide H3).gB (Nat.le_of_lt (unhide H3).row.lt)) (fun v4 w4 ho4 on4 _ => ?_)
  obtain ⟨a4, c4, rfl, _, _⟩ := own_sl3 ho4
  have HR4 := hide ((unhide H3).row.only on4 (fun e => tag_ne (unhide H3).parts (unhide H3).row (by decide) e))
  have HO4 := hide ho4
  have ON4 := hide on4
  have hS4 : w4.cell? ⟨gp, 1, none⟩ = some (.slice ap nl cp) ∧ w4.cell? ⟨gp, 0, none⟩ = some (.int .i64 (A : Int)) := ⟨(unhide HR4).cell 1, (unhide HR4).cell 0⟩
  have hf4 : w4.frozen? ⟨gp, 1, none⟩ = false := (unhide HR4).frozen 1
  clear ho4 on4
  refine hK.out _ _ (fun _ => hS4) ?_
  clear hK K
  obtain ⟨h41, h40⟩ := hS4
  try simp only [Act.put, List.setIfInBounds_toArray, List.set_cons_zero, List.set_cons_succ]
  refine wpAnyT_pure (i := 22) (oi := { dst := some 30, op := Op.nilCheck (Operand.tmp 8), type := 0, pos := "text.go:30", after := #[{ on := 0, ground := Ground.data }, { on := 0, ground := Ground.phase }, { on := 1, ground := Ground.phase }, { on := 2, ground := Ground.phase }, { on := 3, ground := Ground.phase }, { on := 4, ground := Ground.phase }, { on := 5, ground := Ground.phase }, { on := 6, ground := Ground.phase }, { on := 7, ground := Ground.phase }, { on := 8, ground := Ground.phase }, { on := 9, ground := Ground.phase }, { on := 10, ground := Ground.phase }, { on := 11, ground := Ground.phase }, { on := 12, ground := Ground.phase }, { on := 13, ground := Ground.phase }, { on := 14, ground := Ground.phase }, { on := 15, ground := Ground.phase }, { on := 16, ground := Ground.phase }, { on := 17, ground := Ground.phase }, { on := 18, ground := Ground.phase }, { on := 19, ground := Ground.phase }, { on := 20, ground := Ground.phase }, { on := 21, ground := Ground.phase }], guard := none }) (v := .pointer (some ⟨gp, 0, none⟩)) rfl (by kernel_rfl) (by kernel_rfl) (by kernel_rfl) rfl (fun _ _ _ h => h) (Or.inl ⟨by rfl, ?_⟩) ?_
  · intro w hSw
    first
      | rfl
      | (go_simp; done)
      | (go_simp; rw [IntKind.wrap_i64]; omega)
  try simp only [Act.put, List.setIfInBounds_toArray, List.set_cons_zero, List.set_cons_succ]
  refine wpAnyT_pure (i := 23) (oi := { dst := some 31, op := Op.fieldAddr 87 (Operand.tmp 30) 1, type := 0, pos := "text.go:30", after := #[{ on := 22, ground := Ground.data }, { on := 0, ground := Ground.phase }, { on := 1, ground := Ground.phase }, { on := 2, ground := Ground.phase }, { on := 3, ground := Ground.phase }, { on := 4, ground := Ground.phase }, { on := 5, ground := Ground.phase }, { on := 6, ground := Ground.phase }, { on := 7, ground := Ground.phase }, { on := 8, ground := Ground.phase }, { on := 9, ground := Ground.phase }, { on := 10, ground := Ground.phase }, { on := 11, ground := Ground.phase }, { on := 12, ground := Ground.phase }, { on := 13, ground := Ground.phase }, { on := 14, ground := Ground.phase }, { on := 15, ground := Ground.phase }, { on := 16, ground := Ground.phase }, { on := 17, ground := Ground.phase }, { on := 18, ground := Ground.phase }, { on := 19, ground := Ground.phase }, { on := 20, ground := Ground.phase }, { on := 21, ground := Ground.phase }], guard := none }) (v := .pointer (some ⟨gp, 1, none⟩)) rfl (by kernel_rfl) (by kernel_rfl) (by kernel_rfl) rfl (fun _ _ _ h => h) (Or.inl ⟨by rfl, ?_⟩) ?_
  · intro w hSw
    first
      | rfl
      | (go_simp; done)
      | (go_simp; rw [IntKind.wrap_i64]; omega)
  try simp only [Act.put, List.setIfInBounds_toArray, List.set_cons_zero, List.set_cons_succ]
  refine wpAnyT_one (i := 24) (o := { dst := none, op := Op.store 51 (Operand.tmp 31) (Operand.tmp 29), type := 0, pos := "text.go:30", after := #[{ on := 23, ground := Ground.data }, { on := 21, ground := Ground.data }, { on := 21, ground := Ground.chain }, { on := 0, ground := Ground.phase }, { on := 1, ground := Ground.phase }, { on := 2, ground := Ground.phase }, { on := 3, ground := Ground.phase }, { on := 4, ground := Ground.phase }, { on := 5, ground := Ground.phase }, { on := 6, ground := Ground.phase }, { on := 7, ground := Ground.phase }, { on := 8, ground := Ground.phase }, { on := 9, ground := Ground.phase }, { on := 10, ground := Ground.phase }, { on := 11, ground := Ground.phase }, { on := 12, ground := Ground.phase }, { on := 13, ground := Ground.phase }, { on := 14, ground := Ground.phase }, { on := 15, ground := Ground.phase }, { on := 16, ground := Ground.phase }, { on := 17, ground := Ground.phase }, { on := 18, ground := Ground.phase }, { on := 19, ground := Ground.phase }, { on := 20, ground := Ground.phase }, { on := 21, ground := Ground.phase }], guard := none }) (by kernel_rfl) rfl (fun K hK => ?_)
  go_simp
  have HR5 := hide ((unhide HR4).set 1 (.slice a4 (nl + 3) c4))
  obtain ⟨w5, hw5⟩ : ∃ z, w4.setCell ⟨gp, 1, none⟩ (.slice a4 (nl + 3) c4) = z := ⟨_, rfl⟩
  have HW5 := hide hw5
  rw [hw5] at HR5
  try rw [hw5]
  clear hw5
  refine hK.out _ _ (fun h => by cases h) ?_
  clear hK K
  try simp only [Act.put, List.setIfInBounds_toArray, List.set_cons_zero, List.set_cons_succ]
  refine wpAnyT_done (by kernel_rfl) ?_ _
  have HO5 := hide (own_only (unhide HO4) (Only.set (p := (· = gp)) (Only.refl _ _) gp 1 (.slice a4 (nl + 3) c4) rfl) (fun k hk hg => by subst hg; exact tag_ne (unhide HO4) (unhide HR4) (by decide) hk))
  have O5 := hide (Only.set (p := fun k => k = gp ∨ (Value.slice ap nl cp).ownBlock = some k) ((Only.of_below (unhide B3)).trans ((unhide ON4).mono (fun _ h => Or.inr h))) gp 1 (.slice a4 (nl + 3) c4) (Or.inl rfl))
  rw [unhide HW5] at HO5 O5
  have c50 : w5.cell? ⟨gp, 0, none⟩ = some (.int .i64 (A : Int)) := (unhide HR5).cell 0
  have f50 : w5.frozen? ⟨gp, 0, none⟩ = false := (unhide HR5).frozen 0
  go_wp2_with fail
  go_end0
  refine ⟨.slice a4 (nl + 3) c4, rfl, ⟨?_, ?_, (unhide H3).gB⟩, ?_⟩
  · exact (unhide HR5).set 0 (.int .i64 (T : Int))
  · have h6 := own_only (unhide HO5) (Only.set (p := (· = gp)) (Only.refl _ _) gp 0 (.int .i64 (T : Int)) rfl) (fun k hk hg => by subst hg; exact tag_ne (unhide HO5) (unhide HR5) (by decide) hk)
    have e1 : (putL L A F T n s).length = nl + 3 := by rw [← unhide HNL]; simp [putL]
    have e2 : ptc (putL L A F T n s) = ptc L ++ [.int .i64 1, .int .i64 ((F : Int) - (A : Int)), .string ⟨#[]⟩, .int .i64 2, .int .i64 (n : Int), .string s, .int .i64 3, .int .i64 ((T : Int) - (F : Int)), .string ⟨#[]⟩] := by simp [putL, ptc, pcs]
    rw [e1, e2]; exact h6
  · exact (unhide O5).set gp 0 _ (Or.inl rfl)
end Go.Proofs.YtdnbhomjfgpcfaaDoor
