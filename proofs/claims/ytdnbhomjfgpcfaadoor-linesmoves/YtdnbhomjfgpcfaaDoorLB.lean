/- Patches, Swap, Move, the law's example. -/
import Derived.Test.YtdnbhomjfgpcfaaDoorLA
import Derived.Maps.AppendAt
import Derived.Test.YtdnbhomjfgpcfaaDoorAwk
namespace Go.Proofs.YtdnbhomjfgpcfaaDoor
set_option linter.unusedVariables false
set_option linter.unusedSimpArgs false
open Go.ChangeShapes Go.WideShapes Go.ChangeAt Go.RowKit Go.Joins Go.Deep

theorem run_append_none {P : Program} (w : World) (t ty e : TypeId) (i : TypeInfo) (ht : P.underlying t = some (.slice e)) (hi : P.info? e = some i) (base : Option Addr) (sLen sCap c : Nat) (hle : sLen ≤ sCap) :
    (Builtin.append_ #[t, t] ty #[.slice base sLen sCap, .slice none 0 c]).run P w = .ok (.slice base sLen sCap) w := by
  cases base <;> simp [Builtin.append_, run_underlying ht, sizeOf, typeInfo, hi, Builtin.lenOf, Builtin.firstCells, loadCells, loadCellsFrom, hle, storeCells]
theorem run_app_src {P : Program} (w : World) (base : Nat) (t ty e : TypeId) (i : TypeInfo) (z : Value) (size bytes : Nat) (ht : P.underlying t = some (.slice e)) (hi : P.info? e = some i) (hz : i.zero = some z)
    (hsize : i.size = size) (hby : i.bytes = bytes) (hzs : z.cells.size = size) (hsz : 0 < size)
    (v : Value) (n : Nat) (xs : List Value) (hown : w.ownsRow base e size v n xs)
    (ad : Option Addr) (m c : Nat) (news : List Value) (hl : news.length = m * size) (hnone : ad = none → m = 0) (hnews : ∀ b, ad = some b → ∀ j u, news[j]? = some u → w.cell? (b.add j) = some u) (h1 : ∀ u ∈ news, u.oneCell' = true)
    (h63 : n + m ≤ maxLen) (hbytes : (n + m) * bytes ≤ 140737488355328) (hbase : base ≤ w.heap.size) :
    ∃ v' w', (Builtin.append_ #[t, t] ty #[v, .slice ad m c]).run P w = .ok v' w' ∧ w'.ownsRow base e size v' (n + m) (xs ++ news) ∧ Only (fun k => v.ownBlock = some k) w w' ∧ ∀ k, v'.ownBlock = some k → v.ownBlock = some k ∨ w.heap.size ≤ k := by
  cases ad with
  | none =>
    have hm := hnone rfl
    subst hm
    have hn0 : news = [] := List.eq_nil_of_length_eq_zero (by simpa using hl)
    subst hn0
    obtain ⟨b, cap, hv, hle⟩ : ∃ b cap, v = .slice b n cap ∧ n ≤ cap := by
      rcases hown.2 with ⟨rfl, rfl⟩ | ⟨g, cap, cur, rfl, _, _, hle, _⟩
      · exact ⟨none, 0, rfl, Nat.le_refl _⟩
      · exact ⟨_, cap, rfl, hle⟩
    subst hv
    exact ⟨_, w, run_append_none w t ty e i ht hi b n cap c hle, by simpa using hown, Only.refl _ _, fun k hk => .inl hk⟩
  | some b =>
    obtain ⟨v', w', hr, h2, h3, _, h4⟩ := run_append_own_at (P := P) w base t ty e i z size bytes ht hi hz hsize hby hzs hsz v n xs hown b m c news hl (hnews b rfl) h1 h63 hbytes hbase
    exact ⟨v', w', hr, h2, grown_only h3, fun k hk => by
      rcases h4 with e | e
      · rw [e] at hk; exact .inl hk
      · rw [e] at hk; injection hk with hk; exact .inr (by omega)⟩
theorem wp_app_src {o : Oper} {a : Act} {K : Act → World → Prop} {Q : Exit → Act → World → Prop} {w : World} (s x : Operand) (t e : TypeId) (z : Value) (size bytes : Nat) (ht : Tryd.prog.underlying t = some (.slice e))
    (hin : (Tryd.prog.info? e).map (fun i => (i.zero, i.size, i.bytes)) = some (some z, size, bytes)) (hzs : z.cells.size = size) (hsz : 0 < size)
    (ho : o.op = .call { callee := .builtin .append, args := #[s, x], argTypes := #[t, t] }) (base : Nat) (v : Value) (n : Nat) (xs : List Value) (hs : a.eval s = v) (hown : w.ownsRow base e size v n xs)
    (ad : Option Addr) (m c : Nat) (news : List Value) (hx : a.eval x = .slice ad m c) (hl : news.length = m * size) (hnone : ad = none → m = 0) (hnews : ∀ b, ad = some b → ∀ j u, news[j]? = some u → w.cell? (b.add j) = some u) (h1 : ∀ u ∈ news, u.oneCell' = true)
    (h63 : n + m ≤ maxLen) (hbytes : (n + m) * bytes ≤ 140737488355328) (hbase : base ≤ w.heap.size)
    (h : ∀ v' w', w'.ownsRow base e size v' (n + m) (xs ++ news) → Only (fun k => v.ownBlock = some k) w w' → (∀ k, v'.ownBlock = some k → v.ownBlock = some k ∨ w.heap.size ≤ k) → K (a.put o.dst v') w') : o.wp Tryd.prog a w K Q := by
  obtain ⟨i, hi, hz, hsize, hby⟩ := info_parts hin
  obtain ⟨v', w', hr, h2, h3, h4⟩ := run_app_src w base t o.type e i z size bytes ht hi hz hsize hby hzs hsz v n xs hown ad m c news hl hnone hnews h1 h63 hbytes hbase
  unfold Oper.wp execOp
  simp only [ho, resolve, invoke, builtin, Sem.run_bind, Sem.run_pure, Result.andThen_ok, List.map_toArray, List.map_cons, List.map_nil, hs, hx, hr]
  exact h v' w' h2 h3 h4
theorem infoPt : (Tryd.prog.info? 91).map (fun i => (i.zero, i.size, i.bytes)) = some (some (.agg #[.int .i64 0, .int .i64 0, .string ⟨#[]⟩]), 3, 32) := by kernel_rfl
def putL (L : List Pt) (A F T n : Nat) (s : ByteArray) : List Pt := L ++ [⟨1, (F : Int) - (A : Int), ⟨#[]⟩⟩, ⟨2, (n : Int), s⟩, ⟨3, (T : Int) - (F : Int), ⟨#[]⟩⟩]
structure Pa (w : World) (B gp : Nat) (v : Value) (A : Nat) (L : List Pt) : Prop where
  row : RowAt w gp 87 [.int .i64 (A : Int), v]
  parts : w.ownsRow B 91 3 v L.length (ptc L)
  gB : B ≤ gp
def PutR (B gp T : Nat) (v : Value) (L : List Pt) (w : World) (r : Ending) (w' : World) : Prop := ∃ v', r = .returned (.tuple #[]) ∧ Pa w' B gp v' T L ∧ Only (fun k => k = gp ∨ v.ownBlock = some k) w w'
theorem own_sl3 {w : World} {B e k n : Nat} {v : Value} {xs : List Value} (h : w.ownsRow B e k v n xs) : ∃ a c, v = .slice a n c ∧ n ≤ c ∧ c ≤ maxLen := by
  rcases h.2 with ⟨rfl, h0⟩ | ⟨g, cap, cur, rfl, e2, e3, e4, e5, e6⟩
  · exact ⟨none, 0, by rw [h0], by omega, by unfold maxLen; omega⟩
  · exact ⟨_, _, rfl, e4, e5⟩
theorem Pa.call {w w' : World} {B gp A : Nat} {v : Value} {L : List Pt} (h : Pa w B gp v A L) (hb : Below w.heap.size w w') : Pa w' B gp v A L := ⟨h.row.below hb h.row.lt, own_call h.parts hb, h.gB⟩
set_option maxRecDepth 100000 in
set_option maxHeartbeats 4000000 in
theorem put_ok (B gp A F T n : Nat) (v : Value) (L : List Pt) (s : ByteArray) (w : World) (h : Pa w B gp v A L) (hc : Lib.runeCount s = n) (hs : s.size ≤ 1099511627776) (h1 : A ≤ F) (h2 : F ≤ T) (h3 : T ≤ 1099511627776) (hl : L.length ≤ 4398046511) :
    Calls Tryd.prog 56 #[.pointer (some ⟨gp, 0, none⟩), .int .i64 (F : Int), .int .i64 (T : Int), .string s] w fun r w' => PutR B gp T v (putL L A F T n s) w r w' := by
  obtain ⟨ap, cp, rfl, hpc, hpm⟩ := own_sl3 h.parts
  obtain ⟨nl, hnl⟩ : ∃ z, L.length = z := ⟨_, rfl⟩
  have KC := hide (fun W => counts_any s W (by omega))
  rw [hc] at KC
  rw [hnl] at h hpc hl ⊢
  have HNL := hide hnl
  have H := hide h
  have q1 : w.cell? ⟨gp, 1, none⟩ = some (.slice ap nl cp) := h.row.cell 1
  have q0 : w.cell? ⟨gp, 0, none⟩ = some (.int .i64 (A : Int)) := h.row.cell 0
  have HD := hide ((unhide H).call ((Below.refl _ _).drew))
  have BD := hide ((Below.refl w.heap.size w).drew)
  clear h hnl hc
  go_enter Tryd.func56, Tryd.ntmps56
  go_wp2_with fail
  refine wp_region_T (S := fun W => W.cell? ⟨gp, 1, none⟩ = some (.slice ap nl cp) ∧ W.cell? ⟨gp, 0, none⟩ = some (.int .i64 (A : Int))) (fun i => decide (i < 22)) (by kernel_rfl) ⟨q1, q0⟩ (fun hHeld => ?_)
  refine wpAnyT_take (i := 0) (oi := { dst := some 8, op := Op.move (Operand.tmp 0), type := 119, pos := "text.go:30", after := #[], guard := none }) (v := .pointer (some ⟨gp, 0, none⟩)) rfl (by kernel_rfl) (by kernel_rfl) (by kernel_rfl) (by kernel_rfl) (fun _ _ _ h => h) (Or.inl ⟨by rfl, ?_⟩) hHeld ?_
  · intro w hSw
    obtain ⟨hp1, hp0⟩ := hSw
    first
      | rfl
      | (go_simp; done)
      | (go_simp; rw [IntKind.wrap_i64]; omega)
  try simp only [Act.put, List.setIfInBounds_toArray, List.set_cons_zero, List.set_cons_succ]
  refine wpAnyT_take (i := 1) (oi := { dst := some 9, op := Op.move (Operand.tmp 0), type := 119, pos := "text.go:30", after := #[], guard := none }) (v := .pointer (some ⟨gp, 0, none⟩)) rfl (by kernel_rfl) (by kernel_rfl) (by kernel_rfl) (by kernel_rfl) (fun _ _ _ h => h) (Or.inl ⟨by rfl, ?_⟩) hHeld ?_
  · intro w hSw
    obtain ⟨hp1, hp0⟩ := hSw
    first
      | rfl
      | (go_simp; done)
      | (go_simp; rw [IntKind.wrap_i64]; omega)
  try simp only [Act.put, List.setIfInBounds_toArray, List.set_cons_zero, List.set_cons_succ]
  refine wpAnyT_take (i := 2) (oi := { dst := some 10, op := Op.nilCheck (Operand.tmp 9), type := 0, pos := "text.go:30", after := #[{ on := 1, ground := Ground.data }], guard := none }) (v := .pointer (some ⟨gp, 0, none⟩)) rfl (by kernel_rfl) (by kernel_rfl) (by kernel_rfl) (by kernel_rfl) (fun _ _ _ h => h) (Or.inl ⟨by rfl, ?_⟩) hHeld ?_
  · intro w hSw
    obtain ⟨hp1, hp0⟩ := hSw
    first
      | rfl
      | (go_simp; done)
      | (go_simp; rw [IntKind.wrap_i64]; omega)
  try simp only [Act.put, List.setIfInBounds_toArray, List.set_cons_zero, List.set_cons_succ]
  refine wpAnyT_take (i := 3) (oi := { dst := some 11, op := Op.fieldAddr 87 (Operand.tmp 10) 1, type := 0, pos := "text.go:30", after := #[{ on := 2, ground := Ground.data }], guard := none }) (v := .pointer (some ⟨gp, 1, none⟩)) rfl (by kernel_rfl) (by kernel_rfl) (by kernel_rfl) (by kernel_rfl) (fun _ _ _ h => h) (Or.inl ⟨by rfl, ?_⟩) hHeld ?_
  · intro w hSw
    obtain ⟨hp1, hp0⟩ := hSw
    first
      | rfl
      | (go_simp; done)
      | (go_simp; rw [IntKind.wrap_i64]; omega)
  try simp only [Act.put, List.setIfInBounds_toArray, List.set_cons_zero, List.set_cons_succ]
  refine wpAnyT_take (i := 4) (oi := { dst := some 12, op := Op.load 51 (Operand.tmp 11), type := 51, pos := "text.go:30", after := #[{ on := 3, ground := Ground.data }], guard := none }) (v := .slice ap nl cp) rfl (by kernel_rfl) (by kernel_rfl) (by kernel_rfl) (by kernel_rfl) (fun _ _ _ h => h) (Or.inl ⟨by rfl, ?_⟩) hHeld ?_
  · intro w hSw
    obtain ⟨hp1, hp0⟩ := hSw
    first
      | rfl
      | (go_simp; done)
      | (go_simp; rw [IntKind.wrap_i64]; omega)
  try simp only [Act.put, List.setIfInBounds_toArray, List.set_cons_zero, List.set_cons_succ]
  refine wpAnyT_take (i := 5) (oi := { dst := some 13, op := Op.move (Operand.tmp 1), type := 3, pos := "text.go:30", after := #[], guard := none }) (v := .int .i64 (F : Int)) rfl (by kernel_rfl) (by kernel_rfl) (by kernel_rfl) (by kernel_rfl) (fun _ _ _ h => h) (Or.inl ⟨by rfl, ?_⟩) hHeld ?_
  · intro w hSw
    obtain ⟨hp1, hp0⟩ := hSw
    first
      | rfl
      | (go_simp; done)
      | (go_simp; rw [IntKind.wrap_i64]; omega)
  try simp only [Act.put, List.setIfInBounds_toArray, List.set_cons_zero, List.set_cons_succ]
  refine wpAnyT_take (i := 6) (oi := { dst := some 14, op := Op.move (Operand.tmp 0), type := 119, pos := "text.go:30", after := #[], guard := none }) (v := .pointer (some ⟨gp, 0, none⟩)) rfl (by kernel_rfl) (by kernel_rfl) (by kernel_rfl) (by kernel_rfl) (fun _ _ _ h => h) (Or.inl ⟨by rfl, ?_⟩) hHeld ?_
  · intro w hSw
    obtain ⟨hp1, hp0⟩ := hSw
    first
      | rfl
      | (go_simp; done)
      | (go_simp; rw [IntKind.wrap_i64]; omega)
  try simp only [Act.put, List.setIfInBounds_toArray, List.set_cons_zero, List.set_cons_succ]
  refine wpAnyT_take (i := 7) (oi := { dst := some 15, op := Op.nilCheck (Operand.tmp 14), type := 0, pos := "text.go:30", after := #[{ on := 6, ground := Ground.data }], guard := none }) (v := .pointer (some ⟨gp, 0, none⟩)) rfl (by kernel_rfl) (by kernel_rfl) (by kernel_rfl) (by kernel_rfl) (fun _ _ _ h => h) (Or.inl ⟨by rfl, ?_⟩) hHeld ?_
  · intro w hSw
    obtain ⟨hp1, hp0⟩ := hSw
    first
      | rfl
      | (go_simp; done)
      | (go_simp; rw [IntKind.wrap_i64]; omega)
  try simp only [Act.put, List.setIfInBounds_toArray, List.set_cons_zero, List.set_cons_succ]
  refine wpAnyT_take (i := 8) (oi := { dst := some 16, op := Op.fieldAddr 87 (Operand.tmp 15) 0, type := 0, pos := "text.go:30", after := #[{ on := 7, ground := Ground.data }], guard := none }) (v := .pointer (some ⟨gp, 0, none⟩)) rfl (by kernel_rfl) (by kernel_rfl) (by kernel_rfl) (by kernel_rfl) (fun _ _ _ h => h) (Or.inl ⟨by rfl, ?_⟩) hHeld ?_
  · intro w hSw
    obtain ⟨hp1, hp0⟩ := hSw
    first
      | rfl
      | (go_simp; done)
      | (go_simp; rw [IntKind.wrap_i64]; omega)
  try simp only [Act.put, List.setIfInBounds_toArray, List.set_cons_zero, List.set_cons_succ]
  refine wpAnyT_take (i := 9) (oi := { dst := some 17, op := Op.load 3 (Operand.tmp 16), type := 3, pos := "text.go:30", after := #[{ on := 8, ground := Ground.data }], guard := none }) (v := .int .i64 (A : Int)) rfl (by kernel_rfl) (by kernel_rfl) (by kernel_rfl) (by kernel_rfl) (fun _ _ _ h => h) (Or.inl ⟨by rfl, ?_⟩) hHeld ?_
  · intro w hSw
    obtain ⟨hp1, hp0⟩ := hSw
    first
      | rfl
      | (go_simp; done)
      | (go_simp; rw [IntKind.wrap_i64]; omega)
  try simp only [Act.put, List.setIfInBounds_toArray, List.set_cons_zero, List.set_cons_succ]
  refine wpAnyT_take (i := 10) (oi := { dst := some 18, op := Op.binOp BinOp.sub 3 (Operand.tmp 13) (Operand.tmp 17) 3, type := 3, pos := "text.go:30", after := #[{ on := 5, ground := Ground.data }, { on := 9, ground := Ground.data }], guard := none }) (v := .int .i64 ((F : Int) - (A : Int))) rfl (by kernel_rfl) (by kernel_rfl) (by kernel_rfl) (by kernel_rfl) (fun _ _ _ h => h) (Or.inl ⟨by rfl, ?_⟩) hHeld ?_
  · intro w hSw
    obtain ⟨hp1, hp0⟩ := hSw
    first
      | rfl
      | (go_simp; done)
      | (go_simp; rw [IntKind.wrap_i64]; omega)
  try simp only [Act.put, List.setIfInBounds_toArray, List.set_cons_zero, List.set_cons_succ]
  refine wpAnyT_take (i := 11) (oi := { dst := some 19, op := Op.build 91 #[(0, Operand.const (Value.int IntKind.i64 1)), (1, Operand.tmp 18)], type := 91, pos := "text.go:30", after := #[{ on := 10, ground := Ground.data }], guard := none }) (v := .agg #[.int .i64 1, .int .i64 ((F : Int) - (A : Int)), .string ⟨#[]⟩]) rfl (by kernel_rfl) (by kernel_rfl) (by kernel_rfl) (by kernel_rfl) (fun _ _ _ h => h) (Or.inl ⟨by rfl, ?_⟩) hHeld ?_
  · intro w hSw
    obtain ⟨hp1, hp0⟩ := hSw
    first
      | rfl
      | (go_simp; done)
      | (go_simp; rw [IntKind.wrap_i64]; omega)
  try simp only [Act.put, List.setIfInBounds_toArray, List.set_cons_zero, List.set_cons_succ]
  refine wpAnyT_take (i := 12) (oi := { dst := some 20, op := Op.move (Operand.tmp 3), type := 9, pos := "text.go:30", after := #[], guard := none }) (v := .string s) rfl (by kernel_rfl) (by kernel_rfl) (by kernel_rfl) (by kernel_rfl) (fun _ _ _ h => h) (Or.inl ⟨by rfl, ?_⟩) hHeld ?_
  · intro w hSw
    obtain ⟨hp1, hp0⟩ := hSw
    first
      | rfl
      | (go_simp; done)
      | (go_simp; rw [IntKind.wrap_i64]; omega)
  try simp only [Act.put, List.setIfInBounds_toArray, List.set_cons_zero, List.set_cons_succ]
  refine wpAnyT_take (i := 14) (oi := { dst := some 22, op := Op.move (Operand.tmp 3), type := 9, pos := "text.go:30", after := #[], guard := none }) (v := .string s) rfl (by kernel_rfl) (by kernel_rfl) (by kernel_rfl) (by kernel_rfl) (fun _ _ _ h => h) (Or.inl ⟨by rfl, ?_⟩) hHeld ?_
  · intro w hSw
    obtain ⟨hp1, hp0⟩ := hSw
    first
      | rfl
      | (go_simp; done)
      | (go_simp; rw [IntKind.wrap_i64]; omega)
  try simp only [Act.put, List.setIfInBounds_toArray, List.set_cons_zero, List.set_cons_succ]
  refine wpAnyT_take (i := 16) (oi := { dst := some 24, op := Op.move (Operand.tmp 2), type := 3, pos := "text.go:30", after := #[], guard := none }) (v := .int .i64 (T : Int)) rfl (by kernel_rfl) (by kernel_rfl) (by kernel_rfl) (by kernel_rfl) (fun _ _ _ h => h) (Or.inl ⟨by rfl, ?_⟩) hHeld ?_
  · intro w hSw
    obtain ⟨hp1, hp0⟩ := hSw
    first
      | rfl
      | (go_simp; done)
      | (go_simp; rw [IntKind.wrap_i64]; omega)
  try simp only [Act.put, List.setIfInBounds_toArray, List.set_cons_zero, List.set_cons_succ]
  refine wpAnyT_take (i := 17) (oi := { dst := some 25, op := Op.move (Operand.tmp 1), type := 3, pos := "text.go:30", after := #[], guard := none }) (v := .int .i64 (F : Int)) rfl (by kernel_rfl) (by kernel_rfl) (by kernel_rfl) (by kernel_rfl) (fun _ _ _ h => h) (Or.inl ⟨by rfl, ?_⟩) hHeld ?_
  · intro w hSw
    obtain ⟨hp1, hp0⟩ := hSw
    first
      | rfl
      | (go_simp; done)
      | (go_simp; rw [IntKind.wrap_i64]; omega)
  try simp only [Act.put, List.setIfInBounds_toArray, List.set_cons_zero, List.set_cons_succ]
  refine wpAnyT_take (i := 18) (oi := { dst := some 26, op := Op.binOp BinOp.sub 3 (Operand.tmp 24) (Operand.tmp 25) 3, type := 3, pos := "text.go:30", after := #[{ on := 16, ground := Ground.data }, { on := 17, ground := Ground.data }], guard := none }) (v := .int .i64 ((T : Int) - (F : Int))) rfl (by kernel_rfl) (by kernel_rfl) (by kernel_rfl) (by kernel_rfl) (fun _ _ _ h => h) (Or.inl ⟨by rfl, ?_⟩) hHeld ?_
  · intro w hSw
    obtain ⟨hp1, hp0⟩ := hSw
    first
      | rfl
      | (go_simp; done)
      | (go_simp; rw [IntKind.wrap_i64]; omega)
  try simp only [Act.put, List.setIfInBounds_toArray, List.set_cons_zero, List.set_cons_succ]
  refine wpAnyT_take (i := 19) (oi := { dst := some 27, op := Op.build 91 #[(0, Operand.const (Value.int IntKind.i64 3)), (1, Operand.tmp 26)], type := 91, pos := "text.go:30", after := #[{ on := 18, ground := Ground.data }], guard := none }) (v := .agg #[.int .i64 3, .int .i64 ((T : Int) - (F : Int)), .string ⟨#[]⟩]) rfl (by kernel_rfl) (by kernel_rfl) (by kernel_rfl) (by kernel_rfl) (fun _ _ _ h => h) (Or.inl ⟨by rfl, ?_⟩) hHeld ?_
  · intro w hSw
    obtain ⟨hp1, hp0⟩ := hSw
    first
      | rfl
      | (go_simp; done)
      | (go_simp; rw [IntKind.wrap_i64]; omega)
  try simp only [Act.put, List.setIfInBounds_toArray, List.set_cons_zero, List.set_cons_succ]
  refine wpAnyT_one (i := 13) (o := { dst := some 21, op := Op.call { callee := Callee.value (Operand.func 39), args := #[Operand.tmp 20], argTypes := #[9] }, type := 3, pos := "text.go:32", after := #[{ on := 12, ground := Ground.data }], guard := none }) (by kernel_rfl) rfl (fun K hK => ?_)
  go_simp
  refine Calls.mono (unhide KC _) ?_
  rintro r w2 ⟨rfl, b2⟩
  have H2 := hide ((unhide HD).call b2)
  have B2 := hide ((unhide BD).trans b2)
  have hS2 : w2.cell? ⟨gp, 1, none⟩ = some (.slice ap nl cp) ∧ w2.cell? ⟨gp, 0, none⟩ = some (.int .i64 (A : Int)) := ⟨(unhide H2).row.cell 1, (unhide H2).row.cell 0⟩
  clear b2
  go_wp2_with fail
  refine hK.out _ _ (fun _ => hS2) ?_
  clear hK K
  try simp only [Act.put, List.setIfInBounds_toArray, List.set_cons_zero, List.set_cons_succ]
  refine wpAnyT_take (i := 15) (oi := { dst := some 23, op := Op.build 91 #[(0, Operand.const (Value.int IntKind.i64 2)), (1, Operand.tmp 21), (2, Operand.tmp 22)], type := 91, pos := "text.go:30", after := #[{ on := 13, ground := Ground.data }, { on := 14, ground := Ground.data }], guard := none }) (v := .agg #[.int .i64 2, .int .i64 (n : Int), .string s]) rfl (by kernel_rfl) (by kernel_rfl) (by kernel_rfl) (by kernel_rfl) (fun _ _ _ h => h) (Or.inl ⟨by rfl, ?_⟩) hS2 ?_
  · intro w hSw
    obtain ⟨hp1, hp0⟩ := hSw
    first
      | rfl
      | (go_simp; done)
      | (go_simp; rw [IntKind.wrap_i64]; omega)
  try simp only [Act.put, List.setIfInBounds_toArray, List.set_cons_zero, List.set_cons_succ]
  refine wpAnyT_one (i := 20) (o := { dst := some 28, op := Op.buildSlice 51 3 #[(0, Operand.tmp 19), (1, Operand.tmp 23), (2, Operand.tmp 27)], type := 51, pos := "text.go:30", after := #[{ on := 11, ground := Ground.data }, { on := 15, ground := Ground.data }, { on := 19, ground := Ground.data }], guard := none }) (by kernel_rfl) rfl (fun K hK => ?_)
  go_simp
  have b3 : Below w2.heap.size w2 (w2.alloc (.cells #[.int .i64 1, .int .i64 ((F : Int) - (A : Int)), .string ⟨#[]⟩, .int .i64 2, .int .i64 (n : Int), .string s, .int .i64 3, .int .i64 ((T : Int) - (F : Int)), .string ⟨#[]⟩] 91)) := (Below.refl _ _).alloc (Nat.le_refl _) _
  have HN := hide (RowAt.new w2 91 [.int .i64 1, .int .i64 ((F : Int) - (A : Int)), .string ⟨#[]⟩, .int .i64 2, .int .i64 (n : Int), .string s, .int .i64 3, .int .i64 ((T : Int) - (F : Int)), .string ⟨#[]⟩])
  have H3 := hide ((unhide H2).call b3)
  have B3 := hide ((unhide B2).trans (b3.mono (unhide B2).size))
  obtain ⟨w3, hw3⟩ : ∃ z, w2.alloc (.cells #[.int .i64 1, .int .i64 ((F : Int) - (A : Int)), .string ⟨#[]⟩, .int .i64 2, .int .i64 (n : Int), .string s, .int .i64 3, .int .i64 ((T : Int) - (F : Int)), .string ⟨#[]⟩] 91) = z := ⟨_, rfl⟩
  obtain ⟨g2, hg2⟩ : ∃ z, w2.heap.size = z := ⟨_, rfl⟩
  try rw [hw3]
  rw [hw3] at HN H3 B3
  try rw [hg2]
  rw [hg2] at HN
  have hS3 : w3.cell? ⟨gp, 1, none⟩ = some (.slice ap nl cp) ∧ w3.cell? ⟨gp, 0, none⟩ = some (.int .i64 (A : Int)) := ⟨(unhide H3).row.cell 1, (unhide H3).row.cell 0⟩
  clear b3 hw3 hg2
  refine hK.out _ _ (fun _ => hS3) ?_
  clear hK K
  try simp only [Act.put, List.setIfInBounds_toArray, List.set_cons_zero, List.set_cons_succ]
  refine wpAnyT_one (i := 21) (o := { dst := some 29, op := Op.call { callee := Callee.builtin Builtin.append, args := #[Operand.tmp 12, Operand.tmp 28], argTypes := #[51, 51] }, type := 51, pos := "text.go:30", after := #[{ on := 4, ground := Ground.data }, { on := 20, ground := Ground.data }, { on := 13, ground := Ground.chain }], guard := none }) (by kernel_rfl) rfl (fun K hK => ?_)
  refine wp_app_src (Operand.tmp 12) (Operand.tmp 28) 51 91 _ 3 32 Tryd.underlying51 infoPt (by simp [Value.cells]) (by decide) rfl B (.slice ap nl cp) nl (ptc L) rfl (by have h9 := (unhide H3).parts; rw [unhide HNL] at h9; exact h9) (some ⟨g2, 0, none⟩) 3 3 [.int .i64 1, .int .i64 ((F : Int) - (A : Int)), .string ⟨#[]⟩, .int .i64 2, .int .i64 (n : Int), .string s, .int .i64 3, .int .i64 ((T : Int) - (F : Int)), .string ⟨#[]⟩] rfl rfl (fun e => by cases e) (fun b9 hb9 j u hu => by injection hb9 with hb9; subst hb9; rw [Addr.add_lit, Nat.zero_add, (unhide HN).cell]; exact hu) (fun u hu => by simp at hu; rcases hu with rfl | rfl | rfl | rfl | rfl | rfl | rfl | rfl | rfl <;> rfl) (by unfold maxLen; omega) (by omega) (Nat.le_trans (unhide H3).gB (Nat.le_of_lt (unhide H3).row.lt)) (fun v4 w4 ho4 on4 _ => ?_)
  obtain ⟨a4, c4, rfl, _, _⟩ := own_sl3 ho4
  have HR4 := hide ((unhide H3).row.only on4 (fun e => tag_ne (unhide H3).parts (unhide H3).row (by decide) e))
  have HO4 := hide ho4
  have ON4 := hide on4
  have hS4 : w4.cell? ⟨gp, 1, none⟩ = some (.slice ap nl cp) ∧ w4.cell? ⟨gp, 0, none⟩ = some (.int .i64 (A : Int)) := ⟨(unhide HR4).cell 1, (unhide HR4).cell 0⟩
  have hf4 : w4.frozen? ⟨gp, 1, none⟩ = false := (unhide HR4).frozen 1
  clear ho4 on4
  refine hK.out _ _ (fun _ => hS4) ?_
  clear hK K
  obtain ⟨h41, h40⟩ := hS4
  try simp only [Act.put, List.setIfInBounds_toArray, List.set_cons_zero, List.set_cons_succ]
  refine wpAnyT_pure (i := 22) (oi := { dst := some 30, op := Op.nilCheck (Operand.tmp 8), type := 0, pos := "text.go:30", after := #[{ on := 0, ground := Ground.data }, { on := 0, ground := Ground.phase }, { on := 1, ground := Ground.phase }, { on := 2, ground := Ground.phase }, { on := 3, ground := Ground.phase }, { on := 4, ground := Ground.phase }, { on := 5, ground := Ground.phase }, { on := 6, ground := Ground.phase }, { on := 7, ground := Ground.phase }, { on := 8, ground := Ground.phase }, { on := 9, ground := Ground.phase }, { on := 10, ground := Ground.phase }, { on := 11, ground := Ground.phase }, { on := 12, ground := Ground.phase }, { on := 13, ground := Ground.phase }, { on := 14, ground := Ground.phase }, { on := 15, ground := Ground.phase }, { on := 16, ground := Ground.phase }, { on := 17, ground := Ground.phase }, { on := 18, ground := Ground.phase }, { on := 19, ground := Ground.phase }, { on := 20, ground := Ground.phase }, { on := 21, ground := Ground.phase }], guard := none }) (v := .pointer (some ⟨gp, 0, none⟩)) rfl (by kernel_rfl) (by kernel_rfl) (by kernel_rfl) rfl (fun _ _ _ h => h) (Or.inl ⟨by rfl, ?_⟩) ?_
  · intro w hSw
    first
      | rfl
      | (go_simp; done)
      | (go_simp; rw [IntKind.wrap_i64]; omega)
  try simp only [Act.put, List.setIfInBounds_toArray, List.set_cons_zero, List.set_cons_succ]
  refine wpAnyT_pure (i := 23) (oi := { dst := some 31, op := Op.fieldAddr 87 (Operand.tmp 30) 1, type := 0, pos := "text.go:30", after := #[{ on := 22, ground := Ground.data }, { on := 0, ground := Ground.phase }, { on := 1, ground := Ground.phase }, { on := 2, ground := Ground.phase }, { on := 3, ground := Ground.phase }, { on := 4, ground := Ground.phase }, { on := 5, ground := Ground.phase }, { on := 6, ground := Ground.phase }, { on := 7, ground := Ground.phase }, { on := 8, ground := Ground.phase }, { on := 9, ground := Ground.phase }, { on := 10, ground := Ground.phase }, { on := 11, ground := Ground.phase }, { on := 12, ground := Ground.phase }, { on := 13, ground := Ground.phase }, { on := 14, ground := Ground.phase }, { on := 15, ground := Ground.phase }, { on := 16, ground := Ground.phase }, { on := 17, ground := Ground.phase }, { on := 18, ground := Ground.phase }, { on := 19, ground := Ground.phase }, { on := 20, ground := Ground.phase }, { on := 21, ground := Ground.phase }], guard := none }) (v := .pointer (some ⟨gp, 1, none⟩)) rfl (by kernel_rfl) (by kernel_rfl) (by kernel_rfl) rfl (fun _ _ _ h => h) (Or.inl ⟨by rfl, ?_⟩) ?_
  · intro w hSw
    first
      | rfl
      | (go_simp; done)
      | (go_simp; rw [IntKind.wrap_i64]; omega)
  try simp only [Act.put, List.setIfInBounds_toArray, List.set_cons_zero, List.set_cons_succ]
  refine wpAnyT_one (i := 24) (o := { dst := none, op := Op.store 51 (Operand.tmp 31) (Operand.tmp 29), type := 0, pos := "text.go:30", after := #[{ on := 23, ground := Ground.data }, { on := 21, ground := Ground.data }, { on := 21, ground := Ground.chain }, { on := 0, ground := Ground.phase }, { on := 1, ground := Ground.phase }, { on := 2, ground := Ground.phase }, { on := 3, ground := Ground.phase }, { on := 4, ground := Ground.phase }, { on := 5, ground := Ground.phase }, { on := 6, ground := Ground.phase }, { on := 7, ground := Ground.phase }, { on := 8, ground := Ground.phase }, { on := 9, ground := Ground.phase }, { on := 10, ground := Ground.phase }, { on := 11, ground := Ground.phase }, { on := 12, ground := Ground.phase }, { on := 13, ground := Ground.phase }, { on := 14, ground := Ground.phase }, { on := 15, ground := Ground.phase }, { on := 16, ground := Ground.phase }, { on := 17, ground := Ground.phase }, { on := 18, ground := Ground.phase }, { on := 19, ground := Ground.phase }, { on := 20, ground := Ground.phase }, { on := 21, ground := Ground.phase }], guard := none }) (by kernel_rfl) rfl (fun K hK => ?_)
  go_simp
  have HR5 := hide ((unhide HR4).set 1 (.slice a4 (nl + 3) c4))
  obtain ⟨w5, hw5⟩ : ∃ z, w4.setCell ⟨gp, 1, none⟩ (.slice a4 (nl + 3) c4) = z := ⟨_, rfl⟩
  have HW5 := hide hw5
  rw [hw5] at HR5
  try rw [hw5]
  clear hw5
  refine hK.out _ _ (fun h => by cases h) ?_
  clear hK K
  try simp only [Act.put, List.setIfInBounds_toArray, List.set_cons_zero, List.set_cons_succ]
  refine wpAnyT_done (by kernel_rfl) ?_ _
  have HO5 := hide (own_only (unhide HO4) (Only.set (p := (· = gp)) (Only.refl _ _) gp 1 (.slice a4 (nl + 3) c4) rfl) (fun k hk hg => by subst hg; exact tag_ne (unhide HO4) (unhide HR4) (by decide) hk))
  have O5 := hide (Only.set (p := fun k => k = gp ∨ (Value.slice ap nl cp).ownBlock = some k) ((Only.of_below (unhide B3)).trans ((unhide ON4).mono (fun _ h => Or.inr h))) gp 1 (.slice a4 (nl + 3) c4) (Or.inl rfl))
  rw [unhide HW5] at HO5 O5
  have c50 : w5.cell? ⟨gp, 0, none⟩ = some (.int .i64 (A : Int)) := (unhide HR5).cell 0
  have f50 : w5.frozen? ⟨gp, 0, none⟩ = false := (unhide HR5).frozen 0
  go_wp2_with fail
  go_end0
  refine ⟨.slice a4 (nl + 3) c4, rfl, ⟨?_, ?_, (unhide H3).gB⟩, ?_⟩
  · exact (unhide HR5).set 0 (.int .i64 (T : Int))
  · have h6 := own_only (unhide HO5) (Only.set (p := (· = gp)) (Only.refl _ _) gp 0 (.int .i64 (T : Int)) rfl) (fun k hk hg => by subst hg; exact tag_ne (unhide HO5) (unhide HR5) (by decide) hk)
    have e1 : (putL L A F T n s).length = nl + 3 := by rw [← unhide HNL]; simp [putL]
    have e2 : ptc (putL L A F T n s) = ptc L ++ [.int .i64 1, .int .i64 ((F : Int) - (A : Int)), .string ⟨#[]⟩, .int .i64 2, .int .i64 (n : Int), .string s, .int .i64 3, .int .i64 ((T : Int) - (F : Int)), .string ⟨#[]⟩] := by simp [putL, ptc, pcs]
    rw [e1, e2]; exact h6
  · exact (unhide O5).set gp 0 _ (Or.inl rfl)
end Go.Proofs.YtdnbhomjfgpcfaaDoor

namespace Go.Proofs.YtdnbhomjfgpcfaaDoor
set_option linter.unusedVariables false
set_option linter.unusedSimpArgs false
open Go.ChangeShapes Go.WideShapes Go.ChangeAt Go.RowKit Go.Joins Go.Deep

theorem kept {w w' : World} (hb : Below w.heap.size w w') {p : Addr} {v : Value} (h : w.cell? p = some v) : w'.cell? p = some v := by
  refine (hb.cell ?_).trans h
  unfold World.cell? at h
  split at h
  · rename_i h1
    exact (Array.getElem?_eq_some_iff.1 h1).1
  · cases h
theorem sumT_app (l : List Pt) (p : Pt) : sumT (l ++ [p]) = sumT l + p.text.size := sumT_snoc l p
def edL (L : List Pt) (A S : Nat) : List Pt := normL (L ++ [⟨1, (S : Int) - (A : Int), ⟨#[]⟩⟩])
def EdtR (B : Nat) (L : List Pt) (A S : Nat) (w : World) (r : Ending) (w' : World) : Prop := ∃ v, r = .returned v ∧ OwnP w' B v (edL L A S) ∧ Below B w w'
theorem own_ge {w : World} {b s n k : Nat} {e : TypeId} {v : Value} {xs : List Value} (h : w.ownsRow b e s v n xs) (hk : v.ownBlock = some k) : b ≤ k := by
  rcases h.2 with ⟨rfl, _⟩ | ⟨g, cap, cur, rfl, e2, e3, e4, e5, e6⟩
  · cases hk
  · cases hk
    exact e2
set_option maxRecDepth 100000 in
set_option maxHeartbeats 4000000 in
theorem edit_ok (B gp A S : Nat) (v : Value) (L : List Pt) (w : World) (hT : ∀ W, Below B w W → UT W) (h : Pa w B gp v A L) (h1 : A ≤ S) (h3 : S ≤ 1099511627776) (hl : L.length ≤ 4398046511) (ht : sumT L ≤ 140737488355328) :
    Calls Tryd.prog 57 #[.pointer (some ⟨gp, 0, none⟩), .int .i64 (S : Int)] w fun r w' => EdtR B L A S w r w' := by
  obtain ⟨ap, cp, rfl, hpc, hpm⟩ := own_sl3 h.parts
  obtain ⟨nl, hnl⟩ : ∃ z, L.length = z := ⟨_, rfl⟩
  have HU : Hid (∀ W, Below B w W → UT W) := hide hT
  rw [hnl] at h hpc hl
  have HNL := hide hnl
  have H := hide h
  have q1 : w.cell? ⟨gp, 1, none⟩ = some (.slice ap nl cp) := h.row.cell 1
  have q0 : w.cell? ⟨gp, 0, none⟩ = some (.int .i64 (A : Int)) := h.row.cell 0
  clear h hnl
  have b0 : Below w.heap.size w (w.alloc (.cells #[.int .i64 1, .int .i64 ((S : Int) - (A : Int)), .string ⟨#[]⟩] 91)) := (Below.refl _ _).alloc (Nat.le_refl _) _
  have N0 := RowAt.new w 91 [.int .i64 1, .int .i64 ((S : Int) - (A : Int)), .string ⟨#[]⟩]
  have q1' : (w.alloc (.cells #[.int .i64 1, .int .i64 ((S : Int) - (A : Int)), .string ⟨#[]⟩] 91)).cell? ⟨gp, 1, none⟩ = some (.slice ap nl cp) := ((unhide H).call b0).row.cell 1
  obtain ⟨w0, hw0⟩ : ∃ z, w.alloc (.cells #[.int .i64 1, .int .i64 ((S : Int) - (A : Int)), .string ⟨#[]⟩] 91) = z := ⟨_, rfl⟩
  obtain ⟨g5, hg5⟩ : ∃ z, w.heap.size = z := ⟨_, rfl⟩
  have hBw : B ≤ w.heap.size := Nat.le_trans (unhide H).gB (Nat.le_of_lt (unhide H).row.lt)
  rw [hw0] at b0
  have H1 := hide (((unhide H).call b0).call (Below.refl _ _).drew)
  have B1 := hide ((b0.mono hBw).drew)
  have HBS1 : Hid (B ≤ w0.drew.heap.size) := hide (Nat.le_trans hBw (unhide B1).size)
  rw [hw0] at N0 q1'
  have HBW := hide hBw
  rw [hg5] at N0
  clear hBw
  have p0 := N0.cell 0
  have p1 := N0.cell 1
  have p2 := N0.cell 2
  simp only [List.getElem?_cons_zero, List.getElem?_cons_succ] at p0 p1 p2
  have HN5 := hide (N0.below (Below.refl _ _).drew N0.lt)
  have HLT : Hid (∀ k, (Value.slice ap nl cp).ownBlock = some k → k < g5) := hide (fun k hk => by rw [← hg5]; exact ((unhide H).parts.lt k hk).2)
  have HW0 := hide hw0
  have HG5 := hide hg5
  clear b0 N0 hw0 hg5
  go_enter Tryd.func57, Tryd.ntmps57
  go_wp2_with fail
  try rw [unhide HW0]
  try rw [unhide HG5]
  clear HW0 HG5 q0 q1
  refine wp_region_T (S := fun W => W.cell? ⟨gp, 1, none⟩ = some (.slice ap nl cp) ∧ (W.cell? ⟨g5, 0, none⟩ = some (.int .i64 1) ∧ W.cell? ⟨g5, 1, none⟩ = some (.int .i64 ((S : Int) - (A : Int))) ∧ W.cell? ⟨g5, 2, none⟩ = some (.string ⟨#[]⟩))) (fun i => decide (i < 8)) (by kernel_rfl) ⟨q1', p0, p1, p2⟩ (fun hHeld => ?_)
  obtain ⟨w1, hw1⟩ : ∃ z, w0.drew = z := ⟨_, rfl⟩
  rw [hw1] at H1 B1 HBS1 HN5 hHeld ⊢
  clear hw1
  refine wpAnyT_take (i := 0) (oi := { dst := some 13, op := Op.move (Operand.tmp 0), type := 119, pos := "text.go:40", after := #[], guard := none }) (v := .pointer (some ⟨gp, 0, none⟩)) rfl (by kernel_rfl) (by kernel_rfl) (by kernel_rfl) (by kernel_rfl) (fun _ _ _ h => h) (Or.inl ⟨by rfl, ?_⟩) hHeld ?_
  · intro w hSw
    obtain ⟨hp1, h50, h51, h52⟩ := hSw
    first
      | rfl
      | (go_simp; done)
  try simp only [Act.put, List.setIfInBounds_toArray, List.set_cons_zero, List.set_cons_succ]
  refine wpAnyT_take (i := 1) (oi := { dst := some 14, op := Op.nilCheck (Operand.tmp 13), type := 0, pos := "text.go:40", after := #[{ on := 0, ground := Ground.data }], guard := none }) (v := .pointer (some ⟨gp, 0, none⟩)) rfl (by kernel_rfl) (by kernel_rfl) (by kernel_rfl) (by kernel_rfl) (fun _ _ _ h => h) (Or.inl ⟨by rfl, ?_⟩) hHeld ?_
  · intro w hSw
    obtain ⟨hp1, h50, h51, h52⟩ := hSw
    first
      | rfl
      | (go_simp; done)
  try simp only [Act.put, List.setIfInBounds_toArray, List.set_cons_zero, List.set_cons_succ]
  refine wpAnyT_take (i := 2) (oi := { dst := some 15, op := Op.fieldAddr 87 (Operand.tmp 14) 1, type := 0, pos := "text.go:40", after := #[{ on := 1, ground := Ground.data }], guard := none }) (v := .pointer (some ⟨gp, 1, none⟩)) rfl (by kernel_rfl) (by kernel_rfl) (by kernel_rfl) (by kernel_rfl) (fun _ _ _ h => h) (Or.inl ⟨by rfl, ?_⟩) hHeld ?_
  · intro w hSw
    obtain ⟨hp1, h50, h51, h52⟩ := hSw
    first
      | rfl
      | (go_simp; done)
  try simp only [Act.put, List.setIfInBounds_toArray, List.set_cons_zero, List.set_cons_succ]
  refine wpAnyT_take (i := 3) (oi := { dst := some 16, op := Op.load 51 (Operand.tmp 15), type := 51, pos := "text.go:40", after := #[{ on := 2, ground := Ground.data }], guard := none }) (v := .slice ap nl cp) rfl (by kernel_rfl) (by kernel_rfl) (by kernel_rfl) (by kernel_rfl) (fun _ _ _ h => h) (Or.inl ⟨by rfl, ?_⟩) hHeld ?_
  · intro w hSw
    obtain ⟨hp1, h50, h51, h52⟩ := hSw
    first
      | rfl
      | (go_simp; done)
  try simp only [Act.put, List.setIfInBounds_toArray, List.set_cons_zero, List.set_cons_succ]
  refine wpAnyT_take (i := 4) (oi := { dst := some 17, op := Op.load 91 (Operand.tmp 5), type := 91, pos := "text.go:40", after := #[], guard := none }) (v := .agg #[.int .i64 1, .int .i64 ((S : Int) - (A : Int)), .string ⟨#[]⟩]) rfl (by kernel_rfl) (by kernel_rfl) (by kernel_rfl) (by kernel_rfl) (fun _ _ _ h => h) (Or.inl ⟨by rfl, ?_⟩) hHeld ?_
  · intro w hSw
    obtain ⟨hp1, h50, h51, h52⟩ := hSw
    first
      | rfl
      | (go_simp; done)
  try simp only [Act.put, List.setIfInBounds_toArray, List.set_cons_zero, List.set_cons_succ]
  refine wpAnyT_one (i := 5) (o := { dst := some 18, op := Op.buildSlice 51 1 #[(0, Operand.tmp 17)], type := 51, pos := "text.go:40", after := #[{ on := 4, ground := Ground.data }], guard := none }) (by kernel_rfl) rfl (fun K hK => ?_)
  go_simp
  have b3 : Below w1.heap.size w1 (w1.alloc (.cells #[.int .i64 1, .int .i64 ((S : Int) - (A : Int)), .string ⟨#[]⟩] 91)) := (Below.refl _ _).alloc (Nat.le_refl _) _
  have HN := hide (RowAt.new w1 91 [.int .i64 1, .int .i64 ((S : Int) - (A : Int)), .string ⟨#[]⟩])
  have H3 := hide ((unhide H1).call b3)
  have HP5 : Hid ((w1.alloc (.cells #[.int .i64 1, .int .i64 ((S : Int) - (A : Int)), .string ⟨#[]⟩] 91)).cell? ⟨g5, 0, none⟩ = some (.int .i64 1) ∧ (w1.alloc (.cells #[.int .i64 1, .int .i64 ((S : Int) - (A : Int)), .string ⟨#[]⟩] 91)).cell? ⟨g5, 1, none⟩ = some (.int .i64 ((S : Int) - (A : Int))) ∧ (w1.alloc (.cells #[.int .i64 1, .int .i64 ((S : Int) - (A : Int)), .string ⟨#[]⟩] 91)).cell? ⟨g5, 2, none⟩ = some (.string ⟨#[]⟩)) := hide (by have h5 := ((unhide HN5).below b3 (unhide HN5).lt); exact ⟨h5.cell 0, h5.cell 1, h5.cell 2⟩)
  have B3 := hide ((unhide B1).trans (b3.mono (unhide HBS1)))
  obtain ⟨w3, hw3⟩ : ∃ z, w1.alloc (.cells #[.int .i64 1, .int .i64 ((S : Int) - (A : Int)), .string ⟨#[]⟩] 91) = z := ⟨_, rfl⟩
  obtain ⟨g2, hg2⟩ : ∃ z, w1.heap.size = z := ⟨_, rfl⟩
  try rw [hw3]
  rw [hw3] at HN H3 B3 HP5
  try rw [hg2]
  rw [hg2] at HN
  have hS3 : w3.cell? ⟨gp, 1, none⟩ = some (.slice ap nl cp) ∧ (w3.cell? ⟨g5, 0, none⟩ = some (.int .i64 1) ∧ w3.cell? ⟨g5, 1, none⟩ = some (.int .i64 ((S : Int) - (A : Int))) ∧ w3.cell? ⟨g5, 2, none⟩ = some (.string ⟨#[]⟩)) := ⟨(unhide H3).row.cell 1, (unhide HP5).1, (unhide HP5).2.1, (unhide HP5).2.2⟩
  clear b3 hw3 hg2
  refine hK.out _ _ (fun _ => hS3) ?_
  clear hK K
  try simp only [Act.put, List.setIfInBounds_toArray, List.set_cons_zero, List.set_cons_succ]
  refine wpAnyT_one (i := 6) (o := { dst := some 19, op := Op.call { callee := Callee.builtin Builtin.append, args := #[Operand.tmp 16, Operand.tmp 18], argTypes := #[51, 51] }, type := 51, pos := "text.go:40", after := #[{ on := 3, ground := Ground.data }, { on := 5, ground := Ground.data }], guard := none }) (by kernel_rfl) rfl (fun K hK => ?_)
  refine wp_app_src (Operand.tmp 16) (Operand.tmp 18) 51 91 _ 3 32 Tryd.underlying51 infoPt (by simp [Value.cells]) (by decide) rfl B (.slice ap nl cp) nl (ptc L) rfl (by have h9 := (unhide H3).parts; rw [unhide HNL] at h9; exact h9) (some ⟨g2, 0, none⟩) 1 1 [.int .i64 1, .int .i64 ((S : Int) - (A : Int)), .string ⟨#[]⟩] rfl rfl (fun e => by cases e) (fun b9 hb9 j u hu => by injection hb9 with hb9; subst hb9; rw [Addr.add_lit, Nat.zero_add, (unhide HN).cell]; exact hu) (fun u hu => by simp at hu; rcases hu with rfl | rfl | rfl <;> rfl) (by unfold maxLen; omega) (by omega) (Nat.le_trans (unhide H3).gB (Nat.le_of_lt (unhide H3).row.lt)) (fun v4 w4 ho4 on4 _ => ?_)
  have e2 : ptc L ++ [.int .i64 1, .int .i64 ((S : Int) - (A : Int)), .string ⟨#[]⟩] = ptc (L ++ [⟨1, (S : Int) - (A : Int), ⟨#[]⟩⟩]) := by simp [ptc, pcs]
  have e1 : nl + 1 = (L ++ [(⟨1, (S : Int) - (A : Int), ⟨#[]⟩⟩ : Pt)]).length := by rw [← unhide HNL]; simp
  rw [e2] at ho4
  obtain ⟨a4, c4, hv4, hpt, hc4, hm4⟩ := OwnP.slice (l := L ++ [⟨1, (S : Int) - (A : Int), ⟨#[]⟩⟩]) (by unfold OwnP; rw [← e1]; exact ho4)
  have KN := hide (norm_any a4 _ c4 w4 (unhide HU _ ((unhide B3).trans (on4.below (Nat.le_trans (unhide H3).gB (Nat.le_of_lt (unhide H3).row.lt)) (fun k hk => own_ge (unhide H3).parts hk)))) hpt (by rw [← e1]; omega) (by rw [sumT_app]; show sumT L + 0 ≤ _; omega))
  subst hv4
  rw [← e1] at KN
  try rw [← e1]
  have HR4 := hide ((unhide H3).row.only on4 (fun e => tag_ne (unhide H3).parts (unhide H3).row (by decide) e))
  have hS4 : w4.cell? ⟨gp, 1, none⟩ = some (.slice ap nl cp) ∧ (w4.cell? ⟨g5, 0, none⟩ = some (.int .i64 1) ∧ w4.cell? ⟨g5, 1, none⟩ = some (.int .i64 ((S : Int) - (A : Int))) ∧ w4.cell? ⟨g5, 2, none⟩ = some (.string ⟨#[]⟩)) := ⟨(unhide HR4).cell 1, on4.cell (fun e => absurd (unhide HLT _ e) (Nat.lt_irrefl _)) hS3.2.1, on4.cell (fun e => absurd (unhide HLT _ e) (Nat.lt_irrefl _)) hS3.2.2.1, on4.cell (fun e => absurd (unhide HLT _ e) (Nat.lt_irrefl _)) hS3.2.2.2⟩
  have B4 := hide ((unhide B3).trans (on4.below (Nat.le_trans (unhide H3).gB (Nat.le_of_lt (unhide H3).row.lt)) (fun k hk => own_ge (unhide H3).parts hk)))
  clear ho4 on4 hpt e1 e2 hc4 hm4 HR4
  refine hK.out _ _ (fun _ => hS4) ?_
  clear hK K
  try simp only [Act.put, List.setIfInBounds_toArray, List.set_cons_zero, List.set_cons_succ]
  refine wpAnyT_one (i := 7) (o := { dst := some 20, op := Op.call { callee := Callee.value (Operand.func 77), args := #[Operand.tmp 19], argTypes := #[51] }, type := 51, pos := "text.go:40", after := #[{ on := 6, ground := Ground.data }, { on := 6, ground := Ground.chain }], guard := none }) (by kernel_rfl) rfl (fun K hK => ?_)
  go_simp
  refine Calls.mono (unhide KN) ?_
  rintro r w5 ⟨v5, rfl, ho5, b5⟩
  have B5 := hide ((unhide B4).trans (b5.mono (Nat.le_trans (unhide HBW) (unhide B4).size)))
  have HO5 := hide (own_base ho5 (Nat.le_trans (unhide HBW) (unhide B4).size))
  have hS5 : w5.cell? ⟨gp, 1, none⟩ = some (.slice ap nl cp) ∧ (w5.cell? ⟨g5, 0, none⟩ = some (.int .i64 1) ∧ w5.cell? ⟨g5, 1, none⟩ = some (.int .i64 ((S : Int) - (A : Int))) ∧ w5.cell? ⟨g5, 2, none⟩ = some (.string ⟨#[]⟩)) := ⟨kept b5 hS4.1, kept b5 hS4.2.1, kept b5 hS4.2.2.1, kept b5 hS4.2.2.2⟩
  clear b5 ho5 KN
  go_wp2_with fail
  refine hK.out _ _ (fun _ => hS5) ?_
  clear hK K
  try simp only [Act.put, List.setIfInBounds_toArray, List.set_cons_zero, List.set_cons_succ]
  refine wpAnyT_pure (i := 8) (oi := { dst := some 4, op := Op.assign (Operand.tmp 20), type := 51, pos := "text.go:40", after := #[{ on := 7, ground := Ground.data }, { on := 7, ground := Ground.chain }, { on := 0, ground := Ground.phase }, { on := 1, ground := Ground.phase }, { on := 2, ground := Ground.phase }, { on := 3, ground := Ground.phase }, { on := 4, ground := Ground.phase }, { on := 5, ground := Ground.phase }, { on := 6, ground := Ground.phase }, { on := 7, ground := Ground.phase }], guard := none }) (v := v5) rfl (by kernel_rfl) (by kernel_rfl) (by kernel_rfl) rfl (fun _ _ _ h => h) (Or.inl ⟨by rfl, ?_⟩) ?_
  · intro w hSw
    first
      | rfl
      | (go_simp; done)
  try simp only [Act.put, List.setIfInBounds_toArray, List.set_cons_zero, List.set_cons_succ]
  refine wpAnyT_done (by kernel_rfl) ?_ _
  go_wp2_with fail
  go_ret
  exact ⟨_, rfl, unhide HO5, unhide B5⟩
end Go.Proofs.YtdnbhomjfgpcfaaDoor

namespace Go.Proofs.YtdnbhomjfgpcfaaDoor
set_option linter.unusedVariables false
set_option linter.unusedSimpArgs false
open Go.ChangeShapes Go.WideShapes Go.ChangeAt Go.RowKit Go.Joins Go.Deep

/-- the places that do not begin within one that was taken -/
def frees (m : Nat) : Nat → List Nat → List Nat
  | _, [] => []
  | A, a :: q => if A ≤ a then a :: frees m (a + m) q else frees m A q
/-- places of a pattern, by where it begins -/
def occI (P T : List Int) : List Nat := (List.range T.length).filter (fun i => P.isPrefixOf (T.drop i))
theorem suf_pre {P T : List Int} {i : Nat} (hi : i + P.length ≤ T.length) : P <:+ T.take (i + P.length) ↔ P <+: T.drop i := by
  have e : T.take (i + P.length) = T.take i ++ (T.drop i).take P.length := by
    rw [List.take_add]
  constructor
  · rintro ⟨x, hx⟩
    rw [e] at hx
    have hl : x.length = (T.take i).length := by
      have h2 := congrArg List.length hx
      rw [List.length_append, List.length_append, List.length_take, List.length_take, List.length_drop] at h2
      rw [List.length_take]
      omega
    have h3 := (List.append_inj hx hl).2
    rw [h3]
    exact List.take_prefix _ _
  · intro h
    obtain ⟨y, hy⟩ := h
    have h3 : (T.drop i).take P.length = P := by rw [← hy]; simp
    rw [e, h3]
    exact List.suffix_append _ _
theorem occ_range {P T : List Int} (hP : 0 < P.length) : ∀ n, n ≤ T.length → occ P T n = (List.range (n + 1 - P.length)).filter (fun i => P.isPrefixOf (T.drop i))
  | 0, _ => by
    rw [show 0 + 1 - P.length = 0 by omega]
    rfl
  | n + 1, hn => by
    have ih := occ_range (T := T) hP n (by omega)
    rw [occ, ih]
    by_cases h : n + 1 < P.length
    · rw [show n + 1 + 1 - P.length = 0 by omega, show n + 1 - P.length = 0 by omega]
      have h2 : ¬ (P.isSuffixOf (T.take (n + 1)) = true) := by
        rw [List.isSuffixOf_iff_suffix]
        intro hs
        have := hs.length_le
        rw [List.length_take] at this
        omega
      rw [if_neg h2]
      rfl
    · rw [show n + 1 + 1 - P.length = (n + 1 - P.length) + 1 by omega, List.range_succ, List.filter_append]
      congr 1
      have h3 : (n + 1 - P.length) + P.length = n + 1 := by omega
      have h4 := suf_pre (P := P) (T := T) (i := n + 1 - P.length) (by omega)
      rw [h3] at h4
      rw [List.filter_cons, List.filter_nil]
      by_cases h5 : P <+: T.drop (n + 1 - P.length)
      · rw [if_pos (by rw [List.isSuffixOf_iff_suffix]; exact h4.2 h5), if_pos (by rw [List.isPrefixOf_iff_prefix]; exact h5)]
      · rw [if_neg (by rw [List.isSuffixOf_iff_suffix]; exact fun h => h5 (h4.1 h)), if_neg (by rw [List.isPrefixOf_iff_prefix]; exact h5)]
theorem occ_occI {P T : List Int} (hP : 0 < P.length) : occ P T T.length = occI P T := by
  rw [occ_range hP _ (Nat.le_refl _), occI]
  by_cases h : T.length < P.length
  · rw [show T.length + 1 - P.length = 0 by omega, List.range_zero, List.filter_nil]
    symm
    rw [List.filter_eq_nil_iff]
    intro i hi
    rw [List.isPrefixOf_iff_prefix]
    intro hp
    have := hp.length_le
    rw [List.length_drop] at this
    omega
  · have e : T.length = (T.length + 1 - P.length) + (P.length - 1) := by omega
    conv => rhs; rw [e]
    rw [List.range_add, List.filter_append]
    have h2 : ((List.range (P.length - 1)).map (T.length + 1 - P.length + ·)).filter (fun i => P.isPrefixOf (T.drop i)) = [] := by
      rw [List.filter_eq_nil_iff]
      intro i hi
      rw [List.mem_map] at hi
      obtain ⟨j, hj, rfl⟩ := hi
      rw [List.isPrefixOf_iff_prefix]
      intro hp
      have := hp.length_le
      rw [List.length_drop] at this
      omega
    rw [h2, List.append_nil]
theorem occI_mem {P T : List Int} {i : Nat} : i ∈ occI P T ↔ i < T.length ∧ P <+: T.drop i := by
  rw [occI, List.mem_filter, List.mem_range, List.isPrefixOf_iff_prefix]
theorem occI_sorted (P T : List Int) : (occI P T).Pairwise (· < ·) := List.Pairwise.filter _ List.pairwise_lt_range
theorem occI_room {P T : List Int} (hP : 0 < P.length) {i : Nat} (h : i ∈ occI P T) : i + P.length ≤ T.length := by
  have h2 := (occI_mem.1 h).2.length_le
  rw [List.length_drop] at h2
  have := (occI_mem.1 h).1
  omega
/-- all that is swapped, from the beginning on -/
def swF (P : List Int) (ws : List (List UInt8)) : Nat → List Int → List At
  | 0, _ => []
  | _ + 1, [] => []
  | f + 1, c :: T => if P.isPrefixOf (c :: T) = true then ws.map .p ++ (List.replicate P.length .d ++ swF P ws f ((c :: T).drop P.length)) else .k :: swF P ws f T
theorem swF_fuel {P : List Int} {ws : List (List UInt8)} (hP : 0 < P.length) : ∀ (f g : Nat) (T : List Int), T.length ≤ f → T.length ≤ g → swF P ws f T = swF P ws g T
  | 0, 0, _, _, _ => rfl
  | 0, g + 1, [], _, _ => rfl
  | 0, g + 1, c :: T, h, _ => by simp at h
  | f + 1, 0, [], _, _ => rfl
  | f + 1, 0, c :: T, _, h => by simp at h
  | f + 1, g + 1, [], _, _ => rfl
  | f + 1, g + 1, c :: T, h1, h2 => by
    rw [swF, swF]
    simp only [List.length_cons] at h1 h2
    have e1 := swF_fuel (ws := ws) hP f g T (by omega) (by omega)
    have e2 := swF_fuel (ws := ws) hP f g ((c :: T).drop P.length) (by rw [List.length_drop, List.length_cons]; omega) (by rw [List.length_drop, List.length_cons]; omega)
    rw [e1, e2]
def swA (P : List Int) (ws : List (List UInt8)) (T : List Int) : List At := swF P ws T.length T
theorem swA_nil (P : List Int) (ws : List (List UInt8)) : swA P ws [] = [] := rfl
theorem swA_hit {P : List Int} {ws : List (List UInt8)} {T : List Int} (hP : 0 < P.length) (h : P <+: T) : swA P ws T = ws.map .p ++ (List.replicate P.length .d ++ swA P ws (T.drop P.length)) := by
  match T with
  | [] =>
    have := h.length_le
    simp at this
    rw [this] at hP
    simp at hP
  | c :: T =>
    unfold swA
    rw [List.length_cons, swF, if_pos (by rw [List.isPrefixOf_iff_prefix]; exact h)]
    congr 2
    exact swF_fuel hP _ _ _ (by rw [List.length_drop, List.length_cons]; omega) (by rw [List.length_drop, List.length_cons]; omega)
theorem swA_miss {P : List Int} {ws : List (List UInt8)} {c : Int} {T : List Int} (hP : 0 < P.length) (h : ¬ P <+: c :: T) : swA P ws (c :: T) = .k :: swA P ws T := by
  unfold swA
  rw [List.length_cons, swF, if_neg (by rw [List.isPrefixOf_iff_prefix]; exact h)]
theorem swA_skip {P : List Int} {ws : List (List UInt8)} {T : List Int} (hP : 0 < P.length) {A : Nat} : ∀ (k : Nat), A + k ≤ T.length → (∀ i, A ≤ i → i < A + k → ¬ P <+: T.drop i) → swA P ws (T.drop A) = List.replicate k .k ++ swA P ws (T.drop (A + k))
  | 0, _, _ => by simp
  | k + 1, hk, h => by
    have hA : A + k < T.length := by omega
    rw [swA_skip hP k (by omega) (fun i h1 h2 => h i h1 (by omega))]
    have e : T.drop (A + k) = T[A + k] :: T.drop (A + k + 1) := List.drop_eq_getElem_cons hA
    have e2 : swA P ws (T.drop (A + k)) = .k :: swA P ws (T.drop (A + k + 1)) := by
      have := h (A + k) (by omega) (by omega)
      rw [e] at this ⊢
      exact swA_miss hP this
    rw [e2, List.replicate_succ', List.append_assoc]
    rfl
theorem swA_from {P : List Int} {ws : List (List UInt8)} (hP : 0 < P.length) : ∀ (n : Nat) (T : List Int), T.length ≤ n → At.fromN (swA P ws T) = T.length
  | n, [], _ => rfl
  | 0, c :: T, h => by simp at h
  | n + 1, c :: T, h => by
    rw [List.length_cons] at h
    by_cases hp : P <+: c :: T
    · have hl := hp.length_le
      rw [swA_hit hP hp, At.from_app, from_map, At.from_app, from_rep_d, swA_from hP n _ (by rw [List.length_drop, List.length_cons]; omega), List.length_drop]
      omega
    · rw [swA_miss hP hp, At.fromN, swA_from hP n T (by omega), List.length_cons]
theorem swA_puts {P : List Int} {ws : List (List UInt8)} (hP : 0 < P.length) : ∀ (n : Nat) (T : List Int), T.length ≤ n → At.putsN (swA P ws T) ≤ ws.length * T.length ∧ At.toN (swA P ws T) ≤ (ws.length + 1) * T.length ∧ (swA P ws T).length ≤ (ws.length + 1) * T.length
  | n, [], _ => by simp [swA_nil, At.putsN, At.toN]
  | 0, c :: T, h => by simp at h
  | n + 1, c :: T, h => by
    rw [List.length_cons] at h
    by_cases hp : P <+: c :: T
    · have hl := hp.length_le
      obtain ⟨i1, i2, i3⟩ := swA_puts (ws := ws) hP n ((c :: T).drop P.length) (by rw [List.length_drop, List.length_cons]; omega)
      rw [swA_hit hP hp, At.puts_app, puts_map, At.puts_app, puts_rep_d, At.to_app, to_map, At.to_app, to_rep_d]
      rw [List.length_drop] at i1 i2 i3
      simp only [List.length_append, List.length_map, List.length_replicate, List.length_cons] at *
      obtain ⟨d, hd⟩ : ∃ d, T.length + 1 = P.length + d := ⟨_, (Nat.add_sub_cancel' hl).symm⟩
      rw [show T.length + 1 - P.length = d by omega] at i1 i2 i3
      rw [hd, Nat.mul_add, Nat.mul_add]
      have q1 : ws.length * 1 ≤ ws.length * P.length := Nat.mul_le_mul_left _ hP
      have q2 : (ws.length + 1) * P.length = ws.length * P.length + P.length := by rw [Nat.add_mul, Nat.one_mul]
      omega
    · obtain ⟨i1, i2, i3⟩ := swA_puts (ws := ws) hP n T (by omega)
      rw [swA_miss hP hp]
      simp only [At.putsN, At.toN, List.length_cons, Nat.mul_add, Nat.mul_one] at *
      omega
theorem fits_put {n : Nat} {s : ByteArray} {ws : List (List UInt8)} (h : Tx s ws) (hn : ws.length = n) (h1 : 1 ≤ n) (h2 : n ≤ 1099511627776) : fitsB ⟨2, (n : Int), s⟩ = true :=
  fits_of_good ⟨by show (1 : Int) ≤ n; omega, .inr (.inr ⟨rfl, ws, h, by show (ws.length : Int) = n; omega⟩)⟩ (by show (n : Int) ≤ _; omega)
theorem one_k (n : Int) (h2 : n ≤ 1099511627776) : atomsL (([⟨1, n, ⟨#[]⟩⟩] : List Pt).filter fitsB) = List.replicate n.toNat .k := by
  by_cases h : 1 ≤ n
  · have hf : fitsB ⟨1, n, ⟨#[]⟩⟩ = true := fits_of_good ⟨h, .inl ⟨rfl, rfl⟩⟩ h2
    rw [List.filter_cons_of_pos hf, List.filter_nil, atomsL_one]
    exact atoms_keep _ _
  · have hf : ¬ fitsB ⟨1, n, ⟨#[]⟩⟩ = true := fun hf => by
      have := (fitsB_has hf).1
      exact h this
    rw [List.filter_cons_of_neg hf, List.filter_nil, show n.toNat = 0 by omega]
    rfl
theorem one_d (n : Int) (h2 : n ≤ 1099511627776) : atomsL (([⟨3, n, ⟨#[]⟩⟩] : List Pt).filter fitsB) = List.replicate n.toNat .d := by
  by_cases h : 1 ≤ n
  · have hf : fitsB ⟨3, n, ⟨#[]⟩⟩ = true := fits_of_good ⟨h, .inr (.inl ⟨rfl, rfl⟩)⟩ h2
    rw [List.filter_cons_of_pos hf, List.filter_nil, atomsL_one]
    exact atoms_drop _ _
  · have hf : ¬ fitsB ⟨3, n, ⟨#[]⟩⟩ = true := fun hf => by
      have := (fitsB_has hf).1
      exact h this
    rw [List.filter_cons_of_neg hf, List.filter_nil, show n.toNat = 0 by omega]
    rfl
theorem one_p {n : Nat} {s : ByteArray} {ws : List (List UInt8)} (h : Tx s ws) (hn : ws.length = n) (h2 : n ≤ 1099511627776) : atomsL (([⟨2, (n : Int), s⟩] : List Pt).filter fitsB) = ws.map .p := by
  by_cases h1 : 1 ≤ n
  · rw [List.filter_cons_of_pos (fits_put h hn h1 h2), List.filter_nil, atomsL_one]
    exact atoms_put h
  · have hf : ¬ fitsB ⟨2, (n : Int), s⟩ = true := fun hf => by
      have : (1 : Int) ≤ n := (fitsB_has hf).1
      omega
    rw [List.filter_cons_of_neg hf, List.filter_nil]
    obtain rfl : ws = [] := List.length_eq_zero_iff.1 (by omega)
    rfl
theorem putL_atoms {L : List Pt} {A F E n : Nat} {s : ByteArray} {ws : List (List UInt8)} (h : Tx s ws) (hn : ws.length = n) (h2 : n ≤ 1099511627776) (h3 : A ≤ F) (h4 : F ≤ E) (h5 : E ≤ 1099511627776) :
    atomsL ((putL L A F E n s).filter fitsB) = atomsL (L.filter fitsB) ++ (List.replicate (F - A) .k ++ (ws.map .p ++ List.replicate (E - F) .d)) := by
  unfold putL
  rw [show ([⟨1, (F : Int) - (A : Int), ⟨#[]⟩⟩, ⟨2, (n : Int), s⟩, ⟨3, (E : Int) - (F : Int), ⟨#[]⟩⟩] : List Pt) = [⟨1, (F : Int) - (A : Int), ⟨#[]⟩⟩] ++ ([⟨2, (n : Int), s⟩] ++ [⟨3, (E : Int) - (F : Int), ⟨#[]⟩⟩]) from rfl]
  rw [List.filter_append, List.filter_append, List.filter_append, atomsL_append, atomsL_append, atomsL_append, one_k _ (by omega), one_p h hn h2, one_d _ (by omega)]
  rw [show ((F : Int) - (A : Int)).toNat = F - A by omega, show ((E : Int) - (F : Int)).toNat = E - F by omega]
structure SI (P : List Int) (ws : List (List UInt8)) (T : List Int) (z k A : Nat) (L : List Pt) : Prop where
  eq : atomsL (L.filter fitsB) ++ swA P ws (T.drop A) = swA P ws T
  past : ∀ i, i < k → ∀ a, (occI P T)[i]? = some a → a < A
  le : A ≤ T.length
  len : L.length ≤ 3 * k
  txt : sumT L ≤ k * z
theorem SI.start (P : List Int) (ws : List (List UInt8)) (T : List Int) (z : Nat) : SI P ws T z 0 0 [] := ⟨by simp [atomsL], fun i h => by omega, by omega, by simp, by simp [sumT]⟩
theorem SI.none_between {P : List Int} {ws : List (List UInt8)} {T : List Int} {z k A : Nat} {L : List Pt} (h : SI P ws T z k A L) {b : Nat} (hk : ∀ (j a : Nat), k ≤ j → (occI P T)[j]? = some a → b ≤ a) (hbl : b ≤ T.length) : ∀ i, A ≤ i → i < b → ¬ P <+: T.drop i := by
  intro i h1 h2 hp
  have hm : i ∈ occI P T := occI_mem.2 ⟨by omega, hp⟩
  obtain ⟨j, hj⟩ := List.getElem?_of_mem hm
  by_cases hjk : j < k
  · have := h.past j hjk i hj
    omega
  · have := hk j i (by omega) hj
    omega
theorem sorted_get {l : List Nat} (h : l.Pairwise (· < ·)) {i j a b : Nat} (hi : l[i]? = some a) (hj : l[j]? = some b) (hij : i < j) : a < b := by
  rw [List.getElem?_eq_some_iff] at hi hj
  obtain ⟨h1, rfl⟩ := hi
  obtain ⟨h2, rfl⟩ := hj
  exact List.pairwise_iff_getElem.1 h i j h1 h2 hij
theorem SI.take {P : List Int} {ws : List (List UInt8)} {T : List Int} {k A a n : Nat} {L : List Pt} {s : ByteArray} (h : SI P ws T s.size k A L) (hP : 0 < P.length) (ha : (occI P T)[k]? = some a) (hA : A ≤ a) (hx : Tx s ws) (hn : ws.length = n) (h2 : n ≤ 1099511627776) (hT : T.length ≤ 1099511627776) : SI P ws T s.size (k + 1) (a + P.length) (putL L A a (a + P.length) n s) := by
  have hr := occI_room hP (List.mem_of_getElem? ha)
  have hm := (occI_mem.1 (List.mem_of_getElem? ha)).2
  refine ⟨?_, fun i hi b hb => ?_, hr, ?_, ?_⟩
  · rw [putL_atoms hx hn h2 hA (by omega) (by omega), ← h.eq]
    have e := swA_skip (ws := ws) (T := T) hP (A := A) (a - A) (by omega) (by
      rw [show A + (a - A) = a by omega]
      refine h.none_between (fun j b hj hb => ?_) (by omega)
      by_cases hjk : j = k
      · subst hjk
        rw [ha] at hb
        cases hb
        exact Nat.le_refl _
      · exact Nat.le_of_lt (sorted_get (occI_sorted P T) ha hb (by omega)))
    rw [show A + (a - A) = a by omega] at e
    rw [e, swA_hit hP hm, List.drop_drop, show a + P.length - a = P.length by omega]
    simp only [List.append_assoc]
  · by_cases hik : i = k
    · subst hik
      rw [ha] at hb
      cases hb
      omega
    · have := sorted_get (occI_sorted P T) hb ha (by omega)
      omega
  · have := h.len
    simp only [putL, List.length_append, List.length_cons, List.length_nil]
    omega
  · have := h.txt
    have e : sumT (putL L A a (a + P.length) n s) = sumT L + s.size := by
      rw [putL, sumT, List.map_append, List.sum_append]
      show sumT L + (0 + (s.size + (0 + 0))) = _
      omega
    rw [e, Nat.add_mul, Nat.one_mul]
    omega
theorem SI.pass {P : List Int} {ws : List (List UInt8)} {T : List Int} {z k A a : Nat} {L : List Pt} (h : SI P ws T z k A L) (ha : (occI P T)[k]? = some a) (hA : a < A) : SI P ws T z (k + 1) A L := by
  refine ⟨h.eq, fun i hi b hb => ?_, h.le, by have := h.len; omega, by have := h.txt; rw [Nat.add_mul]; omega⟩
  by_cases hik : i = k
  · subst hik
    rw [ha] at hb
    cases hb
    exact hA
  · exact h.past i (by omega) b hb
theorem SI.ends {P : List Int} {ws : List (List UInt8)} {T : List Int} {z k A : Nat} {L : List Pt} (h : SI P ws T z k A L) (hP : 0 < P.length) (hk : (occI P T).length ≤ k) (hT : T.length ≤ 1099511627776) : atomsL ((L ++ [(⟨1, (T.length : Int) - (A : Int), ⟨#[]⟩⟩ : Pt)]).filter fitsB) = swA P ws T := by
  rw [List.filter_append, atomsL_append, one_k _ (by omega), ← h.eq]
  congr 1
  have e := swA_skip (ws := ws) (T := T) hP (A := A) (T.length - A) (by have := h.le; omega) (by
    rw [show A + (T.length - A) = T.length by have := h.le; omega]
    refine h.none_between (fun j b hj hb => ?_) (Nat.le_refl _)
    have := (List.getElem?_eq_some_iff.1 hb).1
    omega)
  rw [show A + (T.length - A) = T.length by have := h.le; omega, List.drop_length, swA_nil, List.append_nil] at e
  rw [e]
  congr 1
  have := h.le
  omega
def SwapR (s t : ByteArray) (cs : List (List UInt8)) (w : World) (r : Ending) (w' : World) : Prop := (Lib.validD s.data.toList = false ∧ r = .returned (.tuple #[.slice none 0 0, .int .i64 21]) ∨ ∃ cp, Tx s cp ∧ (Lib.validD t.data.toList = false ∧ r = .returned (.tuple #[.slice none 0 0, .int .i64 21]) ∨ ∃ cw, Tx t cw ∧ (cp = [] ∧ r = .returned (.tuple #[.slice none 0 0, .int .i64 1]) ∨ cp ≠ [] ∧ ∃ v l, r = .returned (.tuple #[v, .int .i64 0]) ∧ OwnP w' w.heap.size v l ∧ NfG 0 l ∧ atomsL l = At.can (swA (rni cp) cw (rni cs))))) ∧ Below w.heap.size w w'
structure SW (w wr : World) (gp : Nat) (vo : Value) (O : List Nat) (P : List Int) (ws : List (List UInt8)) (T : List Int) (z k A : Nat) (v : Value) (L : List Pt) : Prop where
  si : SI P ws T z k A L
  pa : Pa wr w.heap.size gp v A L
  oc : wr.ownsRow w.heap.size 3 1 vo O.length (nsv O)
  bel : Below w.heap.size w wr
  sz : w.heap.size ≤ gp
theorem SW.step {w wr w' : World} {gp : Nat} {vo : Value} {O : List Nat} {P : List Int} {ws : List (List UInt8)} {T : List Int} {s : ByteArray} {k A a n : Nat} {v v' : Value} {L : List Pt} (h : SW w wr gp vo O P ws T s.size k A v L) (hO : O = occI P T) (hP : 0 < P.length) (ha : O[k]? = some a) (hA : A ≤ a) (hx : Tx s ws) (hn : ws.length = n) (h2 : n ≤ 1099511627776) (hT : T.length ≤ 1099511627776) (hp : Pa w' w.heap.size gp v' (a + P.length) (putL L A a (a + P.length) n s)) (ho : Only (fun k => k = gp ∨ v.ownBlock = some k) wr w') : SW w w' gp vo O P ws T s.size (k + 1) (a + P.length) v' (putL L A a (a + P.length) n s) := by
  subst hO
  refine ⟨h.si.take hP ha hA hx hn h2 hT, hp, own_only h.oc ho (fun q hq => ?_), h.bel.trans (ho.below h.bel.size (fun q hq => ?_)), h.sz⟩
  · rintro (rfl | h9)
    · exact tag_ne h.oc h.pa.row (by decide) hq
    · exact own_ne h.oc h.pa.parts (by decide) q hq h9
  · rcases hq with rfl | h9
    · exact h.sz
    · exact own_ge h.pa.parts h9
theorem SW.pass {w wr : World} {gp : Nat} {vo : Value} {O : List Nat} {P : List Int} {ws : List (List UInt8)} {T : List Int} {z k A a : Nat} {v : Value} {L : List Pt} (h : SW w wr gp vo O P ws T z k A v L) (hO : O = occI P T) (ha : O[k]? = some a) (hA : a < A) : SW w wr gp vo O P ws T z (k + 1) A v L := by
  subst hO
  exact ⟨h.si.pass ha hA, h.pa, h.oc, h.bel, h.sz⟩
set_option maxRecDepth 100000 in
set_option maxHeartbeats 4000000 in
theorem swap_ok {w : World} {B g : Nat} {vr vs : Value} {cs : List (List UInt8)} (h : Ix w B g vr vs cs) (s t : ByteArray) (hT : UT w) (hl : cs.length ≤ 1048576) (hs : s.size ≤ 1048576) (ht : t.size ≤ 1048576) : Calls Tryd.prog 32 #[.pointer (some ⟨g, 0, none⟩), .string s, .string t] w fun r w' => SwapR s t cs w r w' := by
  have HU : Hid (∀ W, Below w.heap.size w W → UT W) := hide (fun W hb => hT.call hb)
  obtain ⟨ar, cr, as_, c_, e1, e2, q0, q1⟩ := h.two
  have KM := hide (made_ok g w as_ _ c_ q1 (sts_pos cs))
  have KT := hide (trunes_any s 9223372036854775807 w hT (by omega))
  have HIX := hide h
  have HE1 := hide e1
  clear h e1 e2 q1 hT
  go_enter Tryd.func32, Tryd.ntmps32
  go_wp2_with fail
  refine Calls.mono (unhide KM) ?_
  rintro r w1 ⟨rfl, rfl⟩
  go_wp2_with fail
  refine Calls.mono (unhide KT) ?_
  rintro r w2 ⟨h2, b2⟩
  have B2 := hide b2
  have HI2 := hide ((unhide HIX).call b2)
  clear b2 q0 KT
  rcases h2 with ⟨hv, rfl⟩ | ⟨cp, hx, ⟨h2, rfl⟩ | ⟨h2, v, rfl, ho, -⟩⟩
  · go_wp2_with fail
    go_ret2
    exact ⟨.inl ⟨hv, rfl⟩, unhide B2⟩
  · exfalso
    have := hx.cps.len
    rw [← hx.size] at this
    omega
  · have hfew : cp.length ≤ 1048576 := by have := hx.cps.len; rw [← hx.size] at this; omega
    obtain ⟨ap, c3, rfl, hc1, hc2⟩ := own_sl ho
    have HX := hide hx
    have HO := hide ho
    have KV := hide (valid_any t w2 (unhide HU _ (unhide B2)) (by omega))
    obtain ⟨m, hm⟩ : ∃ m, cp.length = m := ⟨_, rfl⟩
    have HM := hide hm
    rw [hm] at HO hc1 hfew ⊢
    clear hx ho hm
    go_wp2_with fail
    refine Calls.mono (unhide KV) ?_
    rintro r w3 ⟨rfl, b3⟩
    have B3 := hide ((unhide B2).trans (b3.mono (unhide B2).size))
    have HI3 := hide ((unhide HI2).call b3)
    have HO3 := hide (own_call (unhide HO) b3)
    clear b3 KV HI2 HO
    cases hvt : Lib.validD t.data.toList with
    | false =>
      go_wp2_with fail
      go_ret2
      exact ⟨.inr ⟨cp, unhide HX, .inl ⟨hvt, rfl⟩⟩, unhide B3⟩
    | true =>
      obtain ⟨cw, hxt⟩ := tx_of_valid hvt
      have HXT := hide hxt
      clear hvt hxt
      by_cases h0 : m = 0
      · subst h0
        go_wp2_with fail
        go_ret2
        exact ⟨.inr ⟨cp, unhide HX, .inr ⟨cw, unhide HXT, .inl ⟨List.length_eq_zero_iff.1 (unhide HM), rfl⟩⟩⟩, unhide B3⟩
      · have hm0 : ((m : Int) == 0) = false := by simp; omega
        have hpos : 0 < m := by omega
        have hr3 := (unhide HI3).r
        have q0 := (unhide HI3).row.cell 0
        simp only [List.getElem?_cons_zero] at q0
        have ho3 := unhide HO3
        rw [rnv_riv] at ho3 hr3
        obtain ⟨P, hP⟩ : ∃ z, rni cp = z := ⟨_, rfl⟩
        obtain ⟨T, hT⟩ : ∃ z, rni cs = z := ⟨_, rfl⟩
        have hPm : P.length = m := by rw [← hP, rni_len]; exact unhide HM
        have hTn : T.length = cs.length := by rw [← hT, rni_len]
        have HP := hide hP
        have HT := hide hT
        rw [hP] at ho3
        rw [hT] at hr3
        have bA : Below w3.heap.size w3 (w3.alloc (.cells #[.int .i64 0, .slice none 0 0] 87)) := (Below.refl _ _).alloc (Nat.le_refl _) _
        have HN := hide (RowAt.new w3 87 [.int .i64 0, .slice none 0 0])
        have q0' : (w3.alloc (.cells #[.int .i64 0, .slice none 0 0] 87)).cell? ⟨g, 0, none⟩ = some vr := by
          have h9 := (((unhide HI3).row).below bA (unhide HI3).row.lt).cell 0
          simpa using h9
        have KP := hide (places_any _ _ m cs.length _ vr P T (w3.alloc (.cells #[.int .i64 0, .slice none 0 0] 87)) (own_call hr3 bA) (own_call ho3 bA) hpos (by omega) (by omega))
        rw [unhide HE1] at q0' KP
        obtain ⟨gp, hgp⟩ : ∃ z, w3.heap.size = z := ⟨_, rfl⟩
        have hgw : w.heap.size ≤ gp := by rw [← hgp]; exact (unhide B3).size
        have BA := hide ((unhide B3).trans (bA.mono (unhide B3).size))
        obtain ⟨w4, hw4⟩ : ∃ z, w3.alloc (.cells #[.int .i64 0, .slice none 0 0] 87) = z := ⟨_, rfl⟩
        have HW4 := hide hw4
        rw [hw4] at q0' KP HN BA
        rw [hgp] at HN
        have HPM := hide hPm
        have HTN := hide hTn
        obtain ⟨n, hn⟩ : ∃ n, cs.length = n := ⟨_, rfl⟩
        rw [hn] at q0' KP hl
        have HNN := hide hn
        have HM0 := hide h0
        have hmI : (m : Int) ≤ 1048576 := by omega
        clear hP hT hr3 ho3 q0 bA hPm hTn hn HO3 h0
        go_wp2_with fail
        try rw [hgp]
        try rw [unhide HW4]
        try rw [unhide HNN]
        clear hw4 HW4
        clear hgp
        refine Calls.mono (unhide KP) ?_
        rintro r w5 ⟨v5, rfl, ho5, b5⟩
        obtain ⟨O, hO⟩ : ∃ z, occ P T T.length = z := ⟨_, rfl⟩
        have HOI : Hid (O = occI P T) := hide (by rw [← hO]; exact occ_occI (by rw [unhide HPM]; exact hpos))
        rw [hO] at ho5
        have HO5 := hide (own_base ho5 (unhide BA).size)
        obtain ⟨a5, c5, rfl, hoc5, hom5⟩ := own_sl ho5
        have hOl : O.length ≤ n := by
          rw [unhide HOI, occI]
          refine Nat.le_trans (List.length_filter_le _ _) ?_
          rw [List.length_range, unhide HTN, unhide HNN]
          exact Nat.le_refl _
        have HB5 := hide ((unhide BA).trans (b5.mono (unhide BA).size))
        have HS : Hid (SW w w5 gp (.slice a5 O.length c5) O P cw T t.size 0 0 (.slice none 0 0) []) := hide ⟨SI.start P cw T t.size, ⟨(unhide HN).below b5 (unhide HN).lt, ⟨rfl, .inl ⟨rfl, rfl⟩⟩, hgw⟩, unhide HO5, unhide HB5, hgw⟩
        obtain ⟨ol, hol⟩ : ∃ z, O.length = z := ⟨_, rfl⟩
        have HOL := hide hol
        rw [hol] at HS hOl hoc5 ⊢
        clear hol hO ho5 b5 KP q0' BA HN HB5 HO5
        go_wp2_with fail
        go_loopw [11, 38] (fun fv i wr => ∃ (k A : Nat), k ≤ ol ∧ i = .int .i64 (k : Int) ∧ fv = .int .i64 (A : Int) ∧ Hid (∃ v L, SW w wr gp (.slice a5 ol c5) O P cw T t.size k A v L)) (fun _ i _ => ((ol : Int) - intOf i).toNat)
        case atStart => exact ⟨0, 0, by omega, by simp, by simp, hide ⟨_, _, unhide HS⟩⟩
        case round =>
          obtain ⟨k, A, hk, rfl, rfl, HL⟩ := hrel
          obtain ⟨pv_, L, HL2⟩ : ∃ v L, Hid (SW w wr gp (.slice a5 ol c5) O P cw T t.size k A v L) := by obtain ⟨a, b, c⟩ := unhide HL; exact ⟨a, b, hide c⟩
          have hA1 : (A : Int) ≤ 1048576 := by have := (unhide HL2).si.le; rw [unhide HTN, unhide HNN] at this; omega
          by_cases c : (k : Int) < (ol : Int)
          · have hkl : k < O.length := by rw [unhide HOL]; omega
            obtain ⟨a, ha⟩ : ∃ a, O[k]? = some a := ⟨_, List.getElem?_eq_getElem hkl⟩
            obtain ⟨go, c6, e6, hc6, _, hcc, hcm⟩ := own_rd (unhide HL2).oc (i := k) (u := .int .i64 (a : Int)) (by simp [nsv, ha])
            injection e6 with e6 e8 e7
            clear e8
            subst e6 e7
            have hroom := occI_room (P := P) (T := T) (by rw [unhide HPM]; exact hpos) (i := a) (by rw [← unhide HOI]; exact List.mem_of_getElem? ha)
            rw [unhide HPM, unhide HTN, unhide HNN] at hroom
            have HA := hide ha
            have hr1 : (a : Int) + (m : Int) ≤ 1048576 := by omega
            have k0 : (0 : Int) ≤ (k : Int) := by omega
            clear hkl hroom ha
            by_cases cA : (A : Int) ≤ (a : Int)
            · have KQ := hide (put_ok w.heap.size gp A a (a + m) cw.length pv_ L t wr (unhide HL2).pa (unhide HXT).count (by omega) (by omega) (by omega) (by omega) (by have h8 := (unhide HL2).si.len; omega))
              simp only [Int.natCast_add] at KQ
              clear HL
              go_wp2_with fail
              refine Calls.mono (unhide KQ) ?_
              rintro r w6 ⟨v6, rfl, hp6, o6⟩
              have HL3 : Hid (SW w w6 gp (.slice (some ⟨go, 0, none⟩) ol c5) O P cw T t.size (k + 1) (a + m) v6 (putL L A a (a + m) cw.length t)) := by
                have h9 := (unhide HL2).step (unhide HOI) (by rw [unhide HPM]; exact hpos) (unhide HA) (by omega) (unhide HXT) rfl (by have h8 := (unhide HXT).cps.len; rw [← (unhide HXT).size] at h8; omega) (by rw [unhide HTN, unhide HNN]; omega) (w' := w6) (v' := v6) (by rw [unhide HPM]; exact hp6) o6
                rw [unhide HPM] at h9
                exact hide h9
              clear hp6 o6 KQ HL2
              go_wp2_with fail
              exact ⟨⟨k + 1, a + m, by omega, by simp, by simp, hide ⟨_, _, unhide HL3⟩⟩, by simp [intOf]; omega⟩
            · have HL3 := hide ((unhide HL2).pass (unhide HOI) (unhide HA) (by omega))
              clear HL
              go_wp2_with fail
              exact ⟨⟨k + 1, A, by omega, by simp, by simp, hide ⟨_, _, unhide HL3⟩⟩, by simp [intOf]; omega⟩
          · obtain rfl : ol = k := by omega
            have KE := hide (edit_ok w.heap.size gp A n pv_ L wr (fun W hb => unhide HU _ ((unhide HL2).bel.trans hb)) (unhide HL2).pa (by have := (unhide HL2).si.le; rw [unhide HTN, unhide HNN] at this; exact this) (by omega) (by have h8 := (unhide HL2).si.len; omega) (by have h8 := (unhide HL2).si.txt; have h9 : ol * t.size ≤ 1048576 * 1048576 := Nat.mul_le_mul (by omega) ht; omega))
            have q0' : wr.cell? ⟨g, 0, none⟩ = some (.slice ar n cr) := by
              have h9 := (((unhide HIX).row).below (unhide HL2).bel (unhide HIX).row.lt).cell 0
              rw [unhide HE1, unhide HNN] at h9
              simpa using h9
            have heq := (unhide HL2).si.ends (by rw [unhide HPM]; exact hpos) (by rw [← unhide HOI, unhide HOL]; exact Nat.le_refl _) (by rw [unhide HTN, unhide HNN]; omega)
            rw [unhide HTN, unhide HNN] at heq
            have hsz := (swA_puts (P := P) (ws := cw) (by rw [unhide HPM]; exact hpos) _ T (Nat.le_refl _)).2.2
            have hcw : cw.length ≤ 1048576 := by have h8 := (unhide HXT).cps.len; rw [← (unhide HXT).size] at h8; omega
            have hsz2 : (cw.length + 1) * T.length ≤ 1048577 * 1048576 := Nat.mul_le_mul (by omega) (by rw [unhide HTN, unhide HNN]; omega)
            have hg := norm_good (L ++ [⟨1, (n : Int) - (A : Int), ⟨#[]⟩⟩]) (by rw [heq]; omega)
            rw [heq] at hg
            have HG := hide hg
            have HB6 := hide (unhide HL2).bel
            clear heq hsz hcw hsz2 hg HL HL2
            go_wp2_with fail
            refine Calls.mono (unhide KE) ?_
            rintro r w6 ⟨v6, rfl, hp6, b6⟩
            have HP6 := hide hp6
            have HB7 := hide ((unhide HB6).trans b6)
            obtain ⟨a6, c6, rfl, _, _⟩ := own_sl3 hp6
            clear hp6 b6 KE
            go_wp2_with fail
            go_ret2
            refine ⟨.inr ⟨cp, unhide HX, .inr ⟨cw, unhide HXT, .inr ⟨?_, _, _, rfl, unhide HP6, (unhide HG).1, ?_⟩⟩⟩, unhide HB7⟩
            · intro h9
              have := unhide HM
              rw [h9] at this
              exact unhide HM0 this.symm
            · have h9 := (unhide HG).2
              rw [unhide HP, unhide HT]
              exact h9
end Go.Proofs.YtdnbhomjfgpcfaaDoor

namespace Go.Proofs.YtdnbhomjfgpcfaaDoor
set_option linter.unusedVariables false
set_option linter.unusedSimpArgs false
open Go.ChangeShapes Go.WideShapes Go.ChangeAt Go.RowKit Go.Joins Go.Deep

def mvA (cs : List (List UInt8)) (F E A : Nat) : List At := At.comp (List.replicate F .k ++ (List.replicate (E - F) .d ++ List.replicate (cs.length - E) .k)) (List.replicate A .k ++ ((sub cs F E).map .p ++ List.replicate (cs.length - (E - F) - A) .k))
/-- where it comes, in what is left -/
def mvP (cs : List (List UInt8)) (f k t : Nat) : Nat := if f < t then stN cs t - (stN cs (f + k) - stN cs f) else stN cs t
def MovR (cs : List (List UInt8)) (f k t : Int) (w : World) (r : Ending) (w' : World) : Prop := (movB (sts cs).length f k t = false ∧ r = .returned (.tuple #[.slice none 0 0, .int .i64 1]) ∨ movB (sts cs).length f k t = true ∧ ∃ v l, r = .returned (.tuple #[v, .int .i64 0]) ∧ OwnP w' w.heap.size v l ∧ NfG 0 l ∧ atomsL l = At.can (mvA cs (stN cs f.toNat) (stN cs (f.toNat + k.toNat)) (mvP cs f.toNat k.toNat t.toNat))) ∧ Below w.heap.size w w'
theorem movB_has {n : Nat} {f k t : Int} (h : movB n f k t = true) : 0 ≤ f ∧ f < n ∧ 0 ≤ k ∧ k ≤ n - 1 - f ∧ 0 ≤ t ∧ t < n ∧ (t ≤ f ∨ f + k ≤ t) := by
  unfold movB at h
  simp at h
  omega
theorem mv_place {cs : List (List UInt8)} {f k t : Nat} (h1 : f + k < (sts cs).length) (h2 : t < (sts cs).length) (h3 : t ≤ f ∨ f + k ≤ t) : stN cs f ≤ stN cs (f + k) ∧ stN cs (f + k) ≤ cs.length ∧ mvP cs f k t ≤ cs.length - (stN cs (f + k) - stN cs f) := by
  have a1 := sts_mono cs (a := f) (b := f + k) (by omega) h1
  have a2 := stN_le h1
  have a3 := stN_le h2
  refine ⟨a1, a2, ?_⟩
  unfold mvP
  change stN cs f ≤ stN cs (f + k) at a1
  by_cases c : f < t
  · rw [if_pos c]
    omega
  · rw [if_neg c]
    have a4 := sts_mono cs (a := t) (b := f) (by omega) (by omega)
    change stN cs t ≤ stN cs f at a4
    omega
theorem sub_len {cs : List (List UInt8)} {f e : Nat} (hf : f ≤ e) (he : e ≤ cs.length) : (sub cs f e).length = e - f := by unfold sub; rw [List.length_take, List.length_drop]; omega
theorem sub_cps {cs : List (List UInt8)} (h : Cps cs) (f e : Nat) : Cps (sub cs f e) := by unfold sub; exact (h.drop f).take _
theorem outA_ed {N F E : Nat} (h1 : F ≤ E) (h2 : E ≤ N) (h3 : N ≤ 1099511627776) : repB N F ((E : Int) - F) ByteArray.empty = true ∧ IsEd (repL N F ((E : Int) - F) ByteArray.empty) N (N - (E - F)) ∧ atomsL (repL N F ((E : Int) - F) ByteArray.empty) = List.replicate F .k ++ (List.replicate (E - F) .d ++ List.replicate (N - E) .k) ∧ (repL N F ((E : Int) - F) ByteArray.empty).length ≤ 11 := by
  have q := rep_ed tx_empty (n := N) (at_ := F) (k := (E : Int) - F) (by omega) (by omega) (by omega) (by omega) (by omega) (by omega) (by simp; omega)
  have e : atomsL (repL N F ((E : Int) - F) ByteArray.empty) = List.replicate F .k ++ (List.replicate (E - F) .d ++ List.replicate (N - E) .k) := by
    rw [q.2.1, show ((F : Nat) : Int).toNat = F by omega, show ((E : Int) - F).toNat = E - F by omega, show ((N : Int) - F - ((E : Int) - F)).toNat = N - E by omega]
    rfl
  refine ⟨repB_true tx_empty (by omega) (by omega) (by omega) (by omega) (by omega) (by omega) (by simp; omega), ⟨q.1, ?_, ?_, by omega, by omega⟩, e, q.2.2⟩
  · rw [e, At.from_app, At.from_app, from_rep_k, from_rep_d, from_rep_k]; omega
  · rw [e, At.to_app, At.to_app, to_rep_k, to_rep_d, to_rep_k]; omega
theorem inA_ed {N A : Nat} {s : ByteArray} {cs : List (List UInt8)} (hx : Tx s cs) (h1 : A ≤ N) (h3 : N + cs.length ≤ 1099511627776) : repB N A 0 s = true ∧ IsEd (repL N A 0 s) N (N + cs.length) ∧ atomsL (repL N A 0 s) = List.replicate A .k ++ (cs.map .p ++ List.replicate (N - A) .k) ∧ (repL N A 0 s).length ≤ 11 := by
  have q := rep_ed hx (n := N) (at_ := A) (k := 0) (by omega) (by omega) (by omega) (by omega) (by omega) (by omega) (by omega)
  have e : atomsL (repL N A 0 s) = List.replicate A .k ++ (cs.map .p ++ List.replicate (N - A) .k) := by
    rw [q.2.1, show ((A : Nat) : Int).toNat = A by omega, show ((N : Int) - A - 0).toNat = N - A by omega]
    rfl
  refine ⟨repB_true hx (by omega) (by omega) (by omega) (by omega) (by omega) (by omega) (by omega), ⟨q.1, ?_, ?_, by omega, by omega⟩, e, q.2.2⟩
  · rw [e, At.from_app, At.from_app, from_rep_k, from_map, from_rep_k]; omega
  · rw [e, At.to_app, At.to_app, to_rep_k, to_map, to_rep_k]; omega
theorem OwnP.base {w : World} {B B' : Nat} {v : Value} {l : List Pt} (h : OwnP w B v l) (hb : B' ≤ B) : OwnP w B' v l := own_base h hb
theorem rep_at {n at_ k : Int} {s : ByteArray} {N M : Nat} {w : World} (hK : Calls Tryd.prog 62 #[.int .i64 n, .int .i64 at_, .int .i64 k, .string s] w fun r w' => RepR w w' n at_ k s r) (hb : repB n at_ k s = true) (he : IsEd (repL n at_ k s) N M) (hl : (repL n at_ k s).length ≤ 11) : Calls Tryd.prog 62 #[.int .i64 n, .int .i64 at_, .int .i64 k, .string s] w fun r w' => ∃ a c m, r = .returned (.tuple #[.slice a m c, .int .i64 0]) ∧ (repL n at_ k s).length = m ∧ Edit w' a (repL n at_ k s) c ∧ Below w.heap.size w w' := by
  refine hK.mono (fun r w' h => ?_)
  obtain ⟨⟨h0, _⟩ | ⟨_, v, hr, ho⟩, b⟩ := h
  · rw [hb] at h0; cases h0
  · obtain ⟨a, c, rfl, e⟩ := ho.edit (ed_txt he) (by omega)
    exact ⟨a, c, _, hr, rfl, e, b⟩
set_option maxRecDepth 100000 in
set_option maxHeartbeats 4000000 in
theorem move_ok {w : World} {B g : Nat} {vr vs : Value} {cs : List (List UInt8)} (h : Ix w B g vr vs cs) (hcs : Cps cs) (f k t : Int) (hk1 : -9223372036854775808 ≤ k) (hk2 : k ≤ 9223372036854775807) (hT : UT w) (hl : cs.length ≤ 1048576) : Calls Tryd.prog 37 #[.pointer (some ⟨g, 0, none⟩), .int .i64 f, .int .i64 k, .int .i64 t] w fun r w' => MovR cs f k t w r w' := by
  have HU : Hid (∀ W, Below w.heap.size w W → UT W) := hide (fun W hb => hT.call hb)
  have HIX := hide h
  have HCS := hide hcs
  obtain ⟨ar, cr, as_, c_, e1, e2, q0, q1⟩ := h.two
  obtain ⟨gr, cr2, e5⟩ := h.sm
  rw [e5] at e1
  injection e1 with e1 _ e7
  subst e1 e7
  have hml : (sts cs).length ≤ 1048577 := by have := sts_len cs; omega
  have KM := hide (made_ok g w as_ _ c_ q1 (sts_pos cs))
  have KL := hide (moves_ok g f k t w as_ _ c_ q1 (by omega) hk1 hk2)
  cases hm : movB (sts cs).length f k t with
  | false =>
    rw [hm] at KL
    have HM := hide hm
    clear hm h e2 q0 q1 hT hcs
    go_enter Tryd.func37, Tryd.ntmps37
    go_wp2_with fail
    refine Calls.mono (unhide KM) ?_
    rintro r w1 ⟨rfl, rfl⟩
    go_wp2_with fail
    refine Calls.mono (unhide KL) ?_
    rintro r w1 ⟨rfl, rfl⟩
    go_wp2_with fail
    go_ret2
    exact ⟨.inl ⟨unhide HM, rfl⟩, Below.refl _ _⟩
  | true =>
    rw [hm] at KL
    have HM := hide hm
    obtain ⟨m1, m2, m3, m4, m5, m6, m7⟩ := movB_has hm
    obtain ⟨f', rfl⟩ : ∃ z : Nat, f = (z : Int) := ⟨f.toNat, by omega⟩
    obtain ⟨k', rfl⟩ : ∃ z : Nat, k = (z : Int) := ⟨k.toNat, by omega⟩
    obtain ⟨t', rfl⟩ : ∃ z : Nat, t = (z : Int) := ⟨t.toNat, by omega⟩
    have hfk : f' + k' < (sts cs).length := by omega
    have hf : f' < (sts cs).length := by omega
    have ht : t' < (sts cs).length := by omega
    obtain ⟨hFE, hEn, hP⟩ := mv_place hfk ht (by omega)
    have rf := stN_get hf
    have rfk := stN_get hfk
    have rt := stN_get ht
    have htn := stN_le ht
    have hgt : f' < t' → stN cs (f' + k') ≤ stN cs t' := fun _ => sts_mono cs (by omega) ht
    obtain ⟨F, hF⟩ : ∃ z, stN cs f' = z := ⟨_, rfl⟩
    obtain ⟨E, hE⟩ : ∃ z, stN cs (f' + k') = z := ⟨_, rfl⟩
    obtain ⟨A, hA⟩ : ∃ z, stN cs t' = z := ⟨_, rfl⟩
    obtain ⟨p, hp⟩ : ∃ z, mvP cs f' k' t' = z := ⟨_, rfl⟩
    have hp2 : (p : Int) = if f' < t' then (A : Int) - ((E : Int) - (F : Int)) else (A : Int) := by
      rw [← hp]
      unfold mvP
      rw [hA, hE, hF]
      split
      · rename_i c
        have := hgt c
        rw [hE, hA] at this
        rw [hF, hE] at hFE
        omega
      · rfl
    rw [hF] at rf hFE hP
    rw [hE] at rfk hFE hEn hP hgt
    rw [hA] at rt htn hgt
    rw [hp] at hP
    have HFEP := hide (And.intro hF (And.intro hE hp))
    clear hF hE hA hp
    obtain ⟨gs, c2, e3, hcf, _, hcc, _⟩ := own_rd h.s (u := .int .i64 (F : Int)) (i := f') (by simp [nsv, rf])
    obtain ⟨gs2, c3, e4, hcfk, _, _, _⟩ := own_rd h.s (u := .int .i64 (E : Int)) (i := f' + k') (by simp [nsv, rfk])
    obtain ⟨gs3, c4, e6, hct, _, _, _⟩ := own_rd h.s (u := .int .i64 (A : Int)) (i := t') (by simp [nsv, rt])
    rw [e2] at e3 e4 e6
    injection e3 with e3 e8 e9
    clear e8
    subst e3 e9
    injection e4 with e4 e8 e9
    injection e4 with e4
    injection e4 with e4 e7 e5'
    subst e4
    clear e7 e5' e8 e9
    injection e6 with e6 e8 e9
    injection e6 with e6
    injection e6 with e6 e7 e5'
    subst e6
    clear e7 e5' e8 e9
    obtain ⟨m, hmm⟩ : ∃ z, (sts cs).length = z := ⟨_, rfl⟩
    rw [hmm] at q1 hfk hf ht hcc hml m2 m4 m6
    have HMM := hide hmm
    have hr := h.r
    rw [e5] at hr
    obtain ⟨n, hn⟩ : ∃ z, cs.length = z := ⟨_, rfl⟩
    have HN := hide hn
    rw [hn] at q0 hEn hP htn hl hr
    have hncr : n ≤ cr2 := by
      rcases hr.2 with ⟨e9, _⟩ | ⟨g9, cap, cur, e9, _, _, h3, _⟩
      · injection e9 with e9; cases e9
      · injection e9 with _ _ e3; subst e3; exact h3
    obtain ⟨a1, ha1⟩ : ∃ a1, (if cr2 = F then some (⟨gr, 0, none⟩ : Addr) else some ⟨gr, F, none⟩) = a1 := ⟨_, rfl⟩
    obtain ⟨S, hS⟩ : ∃ S, tb (sub cs F E) = S := ⟨_, rfl⟩
    have hxS : Tx S (sub cs F E) := by rw [← hS]; exact tx_tb (sub_cps hcs F E)
    have hlS : (sub cs F E).length = E - F := sub_len hFE (by rw [hn]; exact hEn)
    have hSz : S.size ≤ 4194304 := by have h8 := (sub_cps hcs F E).most; have h9 := hxS.size; omega
    have HCV : Hid (∀ W, Below w.heap.size w W → ∀ c, (convert 40 9 (.slice a1 (E - F) c)).run Tryd.prog W = .ok (.string S) W) := hide (fun W hb c => by rw [← hS]; exact conv_sub (own_call hr hb) hn hcs hFE hEn a1 ha1 c)
    have KR1 : Hid (∀ W, Below w.heap.size w W → Calls Tryd.prog 62 #[.int .i64 (n : Int), .int .i64 (F : Int), .int .i64 ((E - F : Nat) : Int), .string ⟨#[]⟩] W fun r w' => RepR W w' n F ((E - F : Nat) : Int) ByteArray.empty r) := hide (fun W hb => replace_any _ _ _ _ W (unhide HU _ hb) (by decide) (by omega) (by omega))
    have KR2 : Hid (∀ W, Below w.heap.size w W → Calls Tryd.prog 62 #[.int .i64 ((n : Int) - ((E - F : Nat) : Int)), .int .i64 (p : Int), .int .i64 0, .string S] W fun r w' => RepR W w' ((n : Int) - ((E - F : Nat) : Int)) p 0 S r) := hide (fun W hb => replace_any _ _ _ _ W (unhide HU _ hb) (by omega) (by omega) (by omega))
    have ho1 := outA_ed (N := n) hFE hEn (by omega)
    have ho2 := inA_ed (N := n - (E - F)) (A := p) hxS hP (by omega)
    rw [hlS] at ho2
    have HO12 := hide (And.intro ho1 ho2)
    have eN : ((n - (E - F) : Nat) : Int) = (n : Int) - ((E - F : Nat) : Int) := by omega
    have eD : ((E - F : Nat) : Int) = (E : Int) - (F : Int) := by omega
    have KQ1 : Hid (∀ W, Below w.heap.size w W → Calls Tryd.prog 62 #[.int .i64 (n : Int), .int .i64 (F : Int), .int .i64 ((E - F : Nat) : Int), .string ⟨#[]⟩] W fun r w' => ∃ a c m, r = .returned (.tuple #[.slice a m c, .int .i64 0]) ∧ (repL n F ((E : Int) - F) ByteArray.empty).length = m ∧ Edit w' a (repL n F ((E : Int) - F) ByteArray.empty) c ∧ Below W.heap.size W w') := hide (fun W hb => by
      have h9 := unhide KR1 W hb
      rw [eD] at h9 ⊢
      exact rep_at h9 ho1.1 ho1.2.1 ho1.2.2.2)
    have KQ2 : Hid (∀ W, Below w.heap.size w W → Calls Tryd.prog 62 #[.int .i64 ((n : Int) - ((E - F : Nat) : Int)), .int .i64 (p : Int), .int .i64 0, .string S] W fun r w' => ∃ a c m, r = .returned (.tuple #[.slice a m c, .int .i64 0]) ∧ (repL (n - (E - F) : Nat) p 0 S).length = m ∧ Edit w' a (repL (n - (E - F) : Nat) p 0 S) c ∧ Below W.heap.size W w') := hide (fun W hb => by
      have h9 := unhide KR2 W hb
      rw [← eN] at h9 ⊢
      exact rep_at h9 ho2.1 ho2.2.1 ho2.2.2.2)
    have HXS := hide (And.intro hxS hlS)
    have HEF : Hid (((E - F : Nat) : Int) = (E : Int) - (F : Int)) := hide (by omega)
    obtain ⟨d, hd⟩ : ∃ z, E - F = z := ⟨_, rfl⟩
    clear KR1 KR2 ho1 ho2 eN eD
    rw [hd] at HCV KQ1 KQ2 HEF HO12
    have HDD := hide hd
    have s1 : (F : Int) ≤ (E : Int) := by omega
    have s2 : (E : Int) ≤ (cr2 : Int) := by omega
    have s3 : (F : Int) ≤ 1048576 := by omega
    have s4 : (f' : Int) < (m : Int) := by omega
    have s5 : (f' : Int) + (k' : Int) < (m : Int) := by omega
    have s6 : (t' : Int) < (m : Int) := by omega
    have i1 : (0 : Int) ≤ (f' : Int) := by omega
    have i2 : (0 : Int) ≤ (f' : Int) + (k' : Int) := by omega
    have i3 : (0 : Int) ≤ (t' : Int) := by omega
    have f0 : (0 : Int) ≤ (F : Int) := by omega
    have mI : (m : Int) ≤ 1048577 := by omega
    have aI : (A : Int) ≤ 1048576 := by omega
    have dI : (d : Int) ≤ 1048576 := by omega
    clear e2 hT hcs h e5 hm hmm hn hr hS hxS hlS hSz rf rfk rt m1 m2 m3 m4 m5 m6 m7 hd hf hfk ht
    go_enter Tryd.func37, Tryd.ntmps37
    go_wp2_with fail
    refine Calls.mono (unhide KM) ?_
    rintro r w1 ⟨rfl, rfl⟩
    go_wp2_with fail
    refine Calls.mono (unhide KL) ?_
    rintro r w1 ⟨rfl, rfl⟩
    go_wp2_with fail
    go_quiet (fail)
    rw [unhide HDD]
    have bd := Go.Joins.below_draws w.heap.size w nq
    have p0 := kept bd q0
    have p1 := kept bd q1
    have pf := kept bd hcf
    have pt := kept bd hct
    obtain ⟨w1, hw1⟩ : ∃ z, w.drewN nq = z := ⟨_, rfl⟩
    rw [hw1] at p0 p1 pf pt bd ⊢
    have BD := hide bd
    clear bd hw1 q0 q1 hcf hcfk hct
    have hmid : ∀ (P : Prop), True := fun _ => trivial
    clear hmid
    by_cases hft : f' < t'
    · rw [if_pos hft] at hp2
      have hp3 : (A : Int) - (d : Int) = (p : Int) := by rw [unhide HEF]; exact hp2.symm
      have hftI : (f' : Int) < (t' : Int) := by omega
      clear hp2 hft hgt
      go_wp2_with fail
      try rw [hp3]
      refine wp_region_T (S := fun W => (W.cell? ⟨g, 0, none⟩ = some (.slice (some ⟨gr, 0, none⟩) n cr2) ∧ W.cell? ⟨g, 1, none⟩ = some (.slice (some ⟨gs, 0, none⟩) m c_)) ∧ W.cell? ⟨gs, f', none⟩ = some (.int .i64 (F : Int))) (fun i => decide (i < 19)) (by kernel_rfl) ⟨⟨p0, p1⟩, pf⟩ (fun hHeld => ?_)
      have p9 : (w1.drew.cell? ⟨g, 0, none⟩ = some (.slice (some ⟨gr, 0, none⟩) n cr2) ∧ w1.drew.cell? ⟨g, 1, none⟩ = some (.slice (some ⟨gs, 0, none⟩) m c_)) ∧ w1.drew.cell? ⟨gs, f', none⟩ = some (.int .i64 (F : Int)) := hHeld
      obtain ⟨w2, hw2⟩ : ∃ z, w1.drew = z := ⟨_, rfl⟩
      have BD2 := hide ((unhide BD).drew)
      rw [hw2] at BD2 hHeld p9 ⊢
      have p0 : w2.cell? ⟨g, 0, none⟩ = some (.slice (some ⟨gr, 0, none⟩) n cr2) ∧ w2.cell? ⟨g, 1, none⟩ = some (.slice (some ⟨gs, 0, none⟩) m c_) ∧ w2.cell? ⟨gs, f', none⟩ = some (.int .i64 (F : Int)) := ⟨p9.1.1, p9.1.2, p9.2⟩
      clear p1 pf pt p9 hw2
      refine wpAnyT_take (i := 0) (oi := { dst := some 61, op := Op.move (Operand.tmp 0), type := 24, pos := "lines.go:132", after := #[], guard := none }) (v := .pointer (some ⟨g, 0, none⟩)) rfl (by kernel_rfl) (by kernel_rfl) (by kernel_rfl) (by kernel_rfl) (fun _ _ _ h => h) (Or.inl ⟨by rfl, ?_⟩) hHeld ?_
      · intro w hSw
        obtain ⟨⟨hg0, hg1⟩, hgf⟩ := hSw
        first
          | rfl
          | (go_simp; done)
      try simp only [Act.put, List.setIfInBounds_toArray, List.set_cons_zero, List.set_cons_succ]
      refine wpAnyT_take (i := 1) (oi := { dst := some 62, op := Op.nilCheck (Operand.tmp 61), type := 0, pos := "lines.go:132", after := #[{ on := 0, ground := Ground.data }], guard := none }) (v := .pointer (some ⟨g, 0, none⟩)) rfl (by kernel_rfl) (by kernel_rfl) (by kernel_rfl) (by kernel_rfl) (fun _ _ _ h => h) (Or.inl ⟨by rfl, ?_⟩) hHeld ?_
      · intro w hSw
        obtain ⟨⟨hg0, hg1⟩, hgf⟩ := hSw
        first
          | rfl
          | (go_simp; done)
      try simp only [Act.put, List.setIfInBounds_toArray, List.set_cons_zero, List.set_cons_succ]
      refine wpAnyT_take (i := 2) (oi := { dst := some 63, op := Op.fieldAddr 64 (Operand.tmp 62) 0, type := 0, pos := "lines.go:132", after := #[{ on := 1, ground := Ground.data }], guard := none }) (v := .pointer (some ⟨g, 0, none⟩)) rfl (by kernel_rfl) (by kernel_rfl) (by kernel_rfl) (by kernel_rfl) (fun _ _ _ h => h) (Or.inl ⟨by rfl, ?_⟩) hHeld ?_
      · intro w hSw
        obtain ⟨⟨hg0, hg1⟩, hgf⟩ := hSw
        first
          | rfl
          | (go_simp; done)
      try simp only [Act.put, List.setIfInBounds_toArray, List.set_cons_zero, List.set_cons_succ]
      refine wpAnyT_take (i := 3) (oi := { dst := some 64, op := Op.load 40 (Operand.tmp 63), type := 40, pos := "lines.go:132", after := #[{ on := 2, ground := Ground.data }], guard := none }) (v := .slice (some ⟨gr, 0, none⟩) n cr2) rfl (by kernel_rfl) (by kernel_rfl) (by kernel_rfl) (by kernel_rfl) (fun _ _ _ h => h) (Or.inl ⟨by rfl, ?_⟩) hHeld ?_
      · intro w hSw
        obtain ⟨⟨hg0, hg1⟩, hgf⟩ := hSw
        first
          | rfl
          | (go_simp; done)
      try simp only [Act.put, List.setIfInBounds_toArray, List.set_cons_zero, List.set_cons_succ]
      refine wpAnyT_take (i := 4) (oi := { dst := some 65, op := Op.call { callee := Callee.builtin Builtin.len, args := #[Operand.tmp 64], argTypes := #[40] }, type := 3, pos := "lines.go:132", after := #[{ on := 3, ground := Ground.data }], guard := none }) (v := .int .i64 (n : Int)) rfl (by kernel_rfl) (by kernel_rfl) (by kernel_rfl) (by kernel_rfl) (fun _ _ _ h => h) (Or.inl ⟨by rfl, ?_⟩) hHeld ?_
      · intro w hSw
        obtain ⟨⟨hg0, hg1⟩, hgf⟩ := hSw
        first
          | rfl
          | (go_simp; done)
      try simp only [Act.put, List.setIfInBounds_toArray, List.set_cons_zero, List.set_cons_succ]
      refine wpAnyT_take (i := 5) (oi := { dst := some 66, op := Op.move (Operand.tmp 0), type := 24, pos := "lines.go:132", after := #[], guard := none }) (v := .pointer (some ⟨g, 0, none⟩)) rfl (by kernel_rfl) (by kernel_rfl) (by kernel_rfl) (by kernel_rfl) (fun _ _ _ h => h) (Or.inl ⟨by rfl, ?_⟩) hHeld ?_
      · intro w hSw
        obtain ⟨⟨hg0, hg1⟩, hgf⟩ := hSw
        first
          | rfl
          | (go_simp; done)
      try simp only [Act.put, List.setIfInBounds_toArray, List.set_cons_zero, List.set_cons_succ]
      refine wpAnyT_take (i := 6) (oi := { dst := some 67, op := Op.nilCheck (Operand.tmp 66), type := 0, pos := "lines.go:132", after := #[{ on := 5, ground := Ground.data }], guard := none }) (v := .pointer (some ⟨g, 0, none⟩)) rfl (by kernel_rfl) (by kernel_rfl) (by kernel_rfl) (by kernel_rfl) (fun _ _ _ h => h) (Or.inl ⟨by rfl, ?_⟩) hHeld ?_
      · intro w hSw
        obtain ⟨⟨hg0, hg1⟩, hgf⟩ := hSw
        first
          | rfl
          | (go_simp; done)
      try simp only [Act.put, List.setIfInBounds_toArray, List.set_cons_zero, List.set_cons_succ]
      refine wpAnyT_take (i := 7) (oi := { dst := some 68, op := Op.fieldAddr 64 (Operand.tmp 67) 1, type := 0, pos := "lines.go:132", after := #[{ on := 6, ground := Ground.data }], guard := none }) (v := .pointer (some ⟨g, 1, none⟩)) rfl (by kernel_rfl) (by kernel_rfl) (by kernel_rfl) (by kernel_rfl) (fun _ _ _ h => h) (Or.inl ⟨by rfl, ?_⟩) hHeld ?_
      · intro w hSw
        obtain ⟨⟨hg0, hg1⟩, hgf⟩ := hSw
        first
          | rfl
          | (go_simp; done)
      try simp only [Act.put, List.setIfInBounds_toArray, List.set_cons_zero, List.set_cons_succ]
      refine wpAnyT_take (i := 8) (oi := { dst := some 69, op := Op.load 38 (Operand.tmp 68), type := 38, pos := "lines.go:132", after := #[{ on := 7, ground := Ground.data }], guard := none }) (v := .slice (some ⟨gs, 0, none⟩) m c_) rfl (by kernel_rfl) (by kernel_rfl) (by kernel_rfl) (by kernel_rfl) (fun _ _ _ h => h) (Or.inl ⟨by rfl, ?_⟩) hHeld ?_
      · intro w hSw
        obtain ⟨⟨hg0, hg1⟩, hgf⟩ := hSw
        first
          | rfl
          | (go_simp; done)
      try simp only [Act.put, List.setIfInBounds_toArray, List.set_cons_zero, List.set_cons_succ]
      refine wpAnyT_take (i := 9) (oi := { dst := some 70, op := Op.move (Operand.tmp 1), type := 3, pos := "lines.go:132", after := #[], guard := none }) (v := .int .i64 (f' : Int)) rfl (by kernel_rfl) (by kernel_rfl) (by kernel_rfl) (by kernel_rfl) (fun _ _ _ h => h) (Or.inl ⟨by rfl, ?_⟩) hHeld ?_
      · intro w hSw
        obtain ⟨⟨hg0, hg1⟩, hgf⟩ := hSw
        first
          | rfl
          | (go_simp; done)
      try simp only [Act.put, List.setIfInBounds_toArray, List.set_cons_zero, List.set_cons_succ]
      refine wpAnyT_take (i := 10) (oi := { dst := some 71, op := Op.indexAddr 38 (Operand.tmp 69) (Operand.tmp 70), type := 0, pos := "lines.go:132", after := #[{ on := 8, ground := Ground.data }, { on := 9, ground := Ground.data }], guard := none }) (v := .pointer (some ⟨gs, f', none⟩)) rfl (by kernel_rfl) (by kernel_rfl) (by kernel_rfl) (by kernel_rfl) (fun _ _ _ h => h) (Or.inl ⟨by rfl, ?_⟩) hHeld ?_
      · intro w hSw
        obtain ⟨⟨hg0, hg1⟩, hgf⟩ := hSw
        first
          | rfl
          | (go_simp; done)
      try simp only [Act.put, List.setIfInBounds_toArray, List.set_cons_zero, List.set_cons_succ]
      refine wpAnyT_take (i := 11) (oi := { dst := some 72, op := Op.load 3 (Operand.tmp 71), type := 3, pos := "lines.go:132", after := #[{ on := 10, ground := Ground.data }], guard := none }) (v := .int .i64 (F : Int)) rfl (by kernel_rfl) (by kernel_rfl) (by kernel_rfl) (by kernel_rfl) (fun _ _ _ h => h) (Or.inl ⟨by rfl, ?_⟩) hHeld ?_
      · intro w hSw
        obtain ⟨⟨hg0, hg1⟩, hgf⟩ := hSw
        first
          | rfl
          | (go_simp; done)
      try simp only [Act.put, List.setIfInBounds_toArray, List.set_cons_zero, List.set_cons_succ]
      refine wpAnyT_take (i := 12) (oi := { dst := some 73, op := Op.move (Operand.tmp 10), type := 40, pos := "lines.go:132", after := #[], guard := none }) (v := .slice a1 d (cr2 - F)) rfl (by kernel_rfl) (by kernel_rfl) (by kernel_rfl) (by kernel_rfl) (fun _ _ _ h => h) (Or.inl ⟨by rfl, ?_⟩) hHeld ?_
      · intro w hSw
        obtain ⟨⟨hg0, hg1⟩, hgf⟩ := hSw
        first
          | rfl
          | (go_simp; done)
      try simp only [Act.put, List.setIfInBounds_toArray, List.set_cons_zero, List.set_cons_succ]
      refine wpAnyT_take (i := 13) (oi := { dst := some 74, op := Op.call { callee := Callee.builtin Builtin.len, args := #[Operand.tmp 73], argTypes := #[40] }, type := 3, pos := "lines.go:132", after := #[{ on := 12, ground := Ground.data }], guard := none }) (v := .int .i64 (d : Int)) rfl (by kernel_rfl) (by kernel_rfl) (by kernel_rfl) (by kernel_rfl) (fun _ _ _ h => h) (Or.inl ⟨by rfl, ?_⟩) hHeld ?_
      · intro w hSw
        obtain ⟨⟨hg0, hg1⟩, hgf⟩ := hSw
        first
          | rfl
          | (go_simp; done)
      try simp only [Act.put, List.setIfInBounds_toArray, List.set_cons_zero, List.set_cons_succ]
      refine wpAnyT_one (i := 14) (o := { dst := some 75, op := Op.call { callee := Callee.value (Operand.func 62), args := #[Operand.tmp 65, Operand.tmp 72, Operand.tmp 74, Operand.const (Value.string { data := #[] })], argTypes := #[3, 3, 3, 9] }, type := 52, pos := "lines.go:132", after := #[{ on := 4, ground := Ground.data }, { on := 11, ground := Ground.data }, { on := 13, ground := Ground.data }], guard := none }) (by kernel_rfl) rfl (fun K hK => ?_)
      go_simp
      refine Calls.mono (unhide KQ1 _ (unhide BD2)) ?_
      rintro r w3 ⟨o1, oc1, om1, rfl, hom1, he1, b3⟩
      have hS3 : (w3.cell? ⟨g, 0, none⟩ = some (.slice (some ⟨gr, 0, none⟩) n cr2) ∧ w3.cell? ⟨g, 1, none⟩ = some (.slice (some ⟨gs, 0, none⟩) m c_)) ∧ w3.cell? ⟨gs, f', none⟩ = some (.int .i64 (F : Int)) := ⟨⟨kept b3 p0.1, kept b3 p0.2.1⟩, kept b3 p0.2.2⟩
      have BD3 := hide ((unhide BD2).trans (b3.mono (unhide BD2).size))
      have HE1 := hide he1
      have HOM1 := hide hom1
      clear b3 he1 hom1
      go_wp2_with fail
      refine hK.out _ _ (fun _ => hS3) ?_
      clear hK K
      try simp only [Act.put, List.setIfInBounds_toArray, List.set_cons_zero, List.set_cons_succ]
      refine wpAnyT_take (i := 15) (oi := { dst := some 60, op := Op.move (Operand.tmp 75), type := 52, pos := "lines.go:132", after := #[{ on := 14, ground := Ground.data }], guard := none }) (v := .tuple #[.slice o1 om1 oc1, .int .i64 0]) rfl (by kernel_rfl) (by kernel_rfl) (by kernel_rfl) (by kernel_rfl) (fun _ _ _ h => h) (Or.inl ⟨by rfl, ?_⟩) hS3 ?_
      · intro w hSw
        obtain ⟨⟨hg0, hg1⟩, hgf⟩ := hSw
        first
          | rfl
          | (go_simp; done)
      try simp only [Act.put, List.setIfInBounds_toArray, List.set_cons_zero, List.set_cons_succ]
      refine wpAnyT_take (i := 16) (oi := { dst := some 76, op := Op.extract (Operand.tmp 60) 0, type := 51, pos := "lines.go:132", after := #[{ on := 15, ground := Ground.data }], guard := none }) (v := .slice o1 om1 oc1) rfl (by kernel_rfl) (by kernel_rfl) (by kernel_rfl) (by kernel_rfl) (fun _ _ _ h => h) (Or.inl ⟨by rfl, ?_⟩) hS3 ?_
      · intro w hSw
        obtain ⟨⟨hg0, hg1⟩, hgf⟩ := hSw
        first
          | rfl
          | (go_simp; done)
      try simp only [Act.put, List.setIfInBounds_toArray, List.set_cons_zero, List.set_cons_succ]
      refine wpAnyT_take (i := 17) (oi := { dst := some 77, op := Op.extract (Operand.tmp 60) 1, type := 25, pos := "lines.go:132", after := #[{ on := 15, ground := Ground.data }, { on := 18, ground := Ground.gcOnly Departure.lateStores }], guard := none }) (v := .int .i64 0) rfl (by kernel_rfl) (by kernel_rfl) (by kernel_rfl) (by kernel_rfl) (fun _ _ _ h => h) (Or.inl ⟨by rfl, ?_⟩) hS3 ?_
      · intro w hSw
        obtain ⟨⟨hg0, hg1⟩, hgf⟩ := hSw
        first
          | rfl
          | (go_simp; done)
      try simp only [Act.put, List.setIfInBounds_toArray, List.set_cons_zero, List.set_cons_succ]
      refine wpAnyT_take (i := 18) (oi := { dst := some 12, op := Op.assign (Operand.tmp 76), type := 51, pos := "lines.go:132", after := #[{ on := 16, ground := Ground.data }, { on := 14, ground := Ground.chain }, { on := 0, ground := Ground.phase }, { on := 1, ground := Ground.phase }, { on := 2, ground := Ground.phase }, { on := 3, ground := Ground.phase }, { on := 4, ground := Ground.phase }, { on := 5, ground := Ground.phase }, { on := 6, ground := Ground.phase }, { on := 7, ground := Ground.phase }, { on := 8, ground := Ground.phase }, { on := 9, ground := Ground.phase }, { on := 10, ground := Ground.phase }, { on := 11, ground := Ground.phase }, { on := 12, ground := Ground.phase }, { on := 13, ground := Ground.phase }, { on := 14, ground := Ground.phase }, { on := 15, ground := Ground.phase }, { on := 16, ground := Ground.phase }, { on := 17, ground := Ground.textOnly Departure.lateStores }], guard := none }) (v := .slice o1 om1 oc1) rfl (by kernel_rfl) (by kernel_rfl) (by kernel_rfl) (by kernel_rfl) (fun _ _ _ h => h) (Or.inl ⟨by rfl, ?_⟩) hS3 ?_
      · intro w hSw
        obtain ⟨⟨hg0, hg1⟩, hgf⟩ := hSw
        first
          | rfl
          | (go_simp; done)
      try simp only [Act.put, List.setIfInBounds_toArray, List.set_cons_zero, List.set_cons_succ]
      refine wpAnyT_pure (i := 19) (oi := { dst := some 13, op := Op.assign (Operand.tmp 77), type := 25, pos := "lines.go:132", after := #[{ on := 17, ground := Ground.data }, { on := 18, ground := Ground.chain }, { on := 0, ground := Ground.phase }, { on := 1, ground := Ground.phase }, { on := 2, ground := Ground.phase }, { on := 3, ground := Ground.phase }, { on := 4, ground := Ground.phase }, { on := 5, ground := Ground.phase }, { on := 6, ground := Ground.phase }, { on := 7, ground := Ground.phase }, { on := 8, ground := Ground.phase }, { on := 9, ground := Ground.phase }, { on := 10, ground := Ground.phase }, { on := 11, ground := Ground.phase }, { on := 12, ground := Ground.phase }, { on := 13, ground := Ground.phase }, { on := 14, ground := Ground.phase }, { on := 15, ground := Ground.phase }, { on := 16, ground := Ground.phase }, { on := 17, ground := Ground.phase }, { on := 18, ground := Ground.phase }], guard := none }) (v := .int .i64 0) rfl (by kernel_rfl) (by kernel_rfl) (by kernel_rfl) rfl (fun _ _ _ h => h) (Or.inl ⟨by rfl, ?_⟩) ?_
      · intro w hSw
        first
          | rfl
          | (go_simp; done)
      try simp only [Act.put, List.setIfInBounds_toArray, List.set_cons_zero, List.set_cons_succ]
      refine wpAnyT_done (by kernel_rfl) ?_ _
      go_wp2_with fail
      have p4' : w3.cell? ⟨g, 0, none⟩ = some (.slice (some ⟨gr, 0, none⟩) n cr2) := hS3.1.1
      clear hS3
      refine wp_region_T (S := fun W => W.cell? ⟨g, 0, none⟩ = some (.slice (some ⟨gr, 0, none⟩) n cr2) ∧ ∀ c, (convert 40 9 (.slice a1 d c)).run Tryd.prog W = .ok (.string S) W) (fun i => decide (i < 16)) (by kernel_rfl) ⟨p4', unhide HCV _ (unhide BD3).drew⟩ (fun hHeld => ?_)
      have p4 : w3.drew.cell? ⟨g, 0, none⟩ = some (.slice (some ⟨gr, 0, none⟩) n cr2) := hHeld.1
      have BD4 := hide ((unhide BD3).drew)
      have HE14 := hide ((unhide HE1).call (Below.refl _ _).drew)
      obtain ⟨w4, hw4⟩ : ∃ z, w3.drew = z := ⟨_, rfl⟩
      rw [hw4] at BD4 hHeld p4 HE14 ⊢
      clear hw4 p4'
      refine wpAnyT_take (i := 0) (oi := { dst := some 79, op := Op.move (Operand.tmp 0), type := 24, pos := "lines.go:133", after := #[], guard := none }) (v := .pointer (some ⟨g, 0, none⟩)) rfl (by kernel_rfl) (by kernel_rfl) (by kernel_rfl) (by kernel_rfl) (fun _ _ _ h => h) (Or.inl ⟨by rfl, ?_⟩) hHeld ?_
      · intro w hSw
        obtain ⟨hg0, hcvW⟩ := hSw
        first
          | rfl
          | (go_simp; done)
      try simp only [Act.put, List.setIfInBounds_toArray, List.set_cons_zero, List.set_cons_succ]
      refine wpAnyT_take (i := 1) (oi := { dst := some 80, op := Op.nilCheck (Operand.tmp 79), type := 0, pos := "lines.go:133", after := #[{ on := 0, ground := Ground.data }], guard := none }) (v := .pointer (some ⟨g, 0, none⟩)) rfl (by kernel_rfl) (by kernel_rfl) (by kernel_rfl) (by kernel_rfl) (fun _ _ _ h => h) (Or.inl ⟨by rfl, ?_⟩) hHeld ?_
      · intro w hSw
        obtain ⟨hg0, hcvW⟩ := hSw
        first
          | rfl
          | (go_simp; done)
      try simp only [Act.put, List.setIfInBounds_toArray, List.set_cons_zero, List.set_cons_succ]
      refine wpAnyT_take (i := 2) (oi := { dst := some 81, op := Op.fieldAddr 64 (Operand.tmp 80) 0, type := 0, pos := "lines.go:133", after := #[{ on := 1, ground := Ground.data }], guard := none }) (v := .pointer (some ⟨g, 0, none⟩)) rfl (by kernel_rfl) (by kernel_rfl) (by kernel_rfl) (by kernel_rfl) (fun _ _ _ h => h) (Or.inl ⟨by rfl, ?_⟩) hHeld ?_
      · intro w hSw
        obtain ⟨hg0, hcvW⟩ := hSw
        first
          | rfl
          | (go_simp; done)
      try simp only [Act.put, List.setIfInBounds_toArray, List.set_cons_zero, List.set_cons_succ]
      refine wpAnyT_take (i := 3) (oi := { dst := some 82, op := Op.load 40 (Operand.tmp 81), type := 40, pos := "lines.go:133", after := #[{ on := 2, ground := Ground.data }], guard := none }) (v := .slice (some ⟨gr, 0, none⟩) n cr2) rfl (by kernel_rfl) (by kernel_rfl) (by kernel_rfl) (by kernel_rfl) (fun _ _ _ h => h) (Or.inl ⟨by rfl, ?_⟩) hHeld ?_
      · intro w hSw
        obtain ⟨hg0, hcvW⟩ := hSw
        first
          | rfl
          | (go_simp; done)
      try simp only [Act.put, List.setIfInBounds_toArray, List.set_cons_zero, List.set_cons_succ]
      refine wpAnyT_take (i := 4) (oi := { dst := some 83, op := Op.call { callee := Callee.builtin Builtin.len, args := #[Operand.tmp 82], argTypes := #[40] }, type := 3, pos := "lines.go:133", after := #[{ on := 3, ground := Ground.data }], guard := none }) (v := .int .i64 (n : Int)) rfl (by kernel_rfl) (by kernel_rfl) (by kernel_rfl) (by kernel_rfl) (fun _ _ _ h => h) (Or.inl ⟨by rfl, ?_⟩) hHeld ?_
      · intro w hSw
        obtain ⟨hg0, hcvW⟩ := hSw
        first
          | rfl
          | (go_simp; done)
      try simp only [Act.put, List.setIfInBounds_toArray, List.set_cons_zero, List.set_cons_succ]
      refine wpAnyT_take (i := 5) (oi := { dst := some 84, op := Op.move (Operand.tmp 10), type := 40, pos := "lines.go:133", after := #[], guard := none }) (v := .slice a1 d (cr2 - F)) rfl (by kernel_rfl) (by kernel_rfl) (by kernel_rfl) (by kernel_rfl) (fun _ _ _ h => h) (Or.inl ⟨by rfl, ?_⟩) hHeld ?_
      · intro w hSw
        obtain ⟨hg0, hcvW⟩ := hSw
        first
          | rfl
          | (go_simp; done)
      try simp only [Act.put, List.setIfInBounds_toArray, List.set_cons_zero, List.set_cons_succ]
      refine wpAnyT_take (i := 6) (oi := { dst := some 85, op := Op.call { callee := Callee.builtin Builtin.len, args := #[Operand.tmp 84], argTypes := #[40] }, type := 3, pos := "lines.go:133", after := #[{ on := 5, ground := Ground.data }], guard := none }) (v := .int .i64 (d : Int)) rfl (by kernel_rfl) (by kernel_rfl) (by kernel_rfl) (by kernel_rfl) (fun _ _ _ h => h) (Or.inl ⟨by rfl, ?_⟩) hHeld ?_
      · intro w hSw
        obtain ⟨hg0, hcvW⟩ := hSw
        first
          | rfl
          | (go_simp; done)
      try simp only [Act.put, List.setIfInBounds_toArray, List.set_cons_zero, List.set_cons_succ]
      refine wpAnyT_take (i := 7) (oi := { dst := some 86, op := Op.binOp BinOp.sub 3 (Operand.tmp 83) (Operand.tmp 85) 3, type := 3, pos := "lines.go:133", after := #[{ on := 4, ground := Ground.data }, { on := 6, ground := Ground.data }], guard := none }) (v := .int .i64 ((n : Int) - (d : Int))) rfl (by kernel_rfl) (by kernel_rfl) (by kernel_rfl) (by kernel_rfl) (fun _ _ _ h => h) (Or.inl ⟨by rfl, ?_⟩) hHeld ?_
      · intro w hSw
        obtain ⟨hg0, hcvW⟩ := hSw
        first
          | (go_simp; done)
          | (go_simp; rw [IntKind.wrap_i64] <;> omega)
      try simp only [Act.put, List.setIfInBounds_toArray, List.set_cons_zero, List.set_cons_succ]
      refine wpAnyT_take (i := 8) (oi := { dst := some 87, op := Op.move (Operand.tmp 11), type := 3, pos := "lines.go:133", after := #[], guard := none }) (v := .int .i64 (p : Int)) rfl (by kernel_rfl) (by kernel_rfl) (by kernel_rfl) (by kernel_rfl) (fun _ _ _ h => h) (Or.inl ⟨by rfl, ?_⟩) hHeld ?_
      · intro w hSw
        obtain ⟨hg0, hcvW⟩ := hSw
        first
          | rfl
          | (go_simp; done)
      try simp only [Act.put, List.setIfInBounds_toArray, List.set_cons_zero, List.set_cons_succ]
      refine wpAnyT_take (i := 9) (oi := { dst := some 88, op := Op.move (Operand.tmp 10), type := 40, pos := "lines.go:133", after := #[], guard := none }) (v := .slice a1 d (cr2 - F)) rfl (by kernel_rfl) (by kernel_rfl) (by kernel_rfl) (by kernel_rfl) (fun _ _ _ h => h) (Or.inl ⟨by rfl, ?_⟩) hHeld ?_
      · intro w hSw
        obtain ⟨hg0, hcvW⟩ := hSw
        first
          | rfl
          | (go_simp; done)
      try simp only [Act.put, List.setIfInBounds_toArray, List.set_cons_zero, List.set_cons_succ]
      refine wpAnyT_take (i := 10) (oi := { dst := some 89, op := Op.convert 40 9 (Operand.tmp 88), type := 9, pos := "lines.go:133", after := #[{ on := 9, ground := Ground.data }], guard := none }) (v := .string S) rfl (by kernel_rfl) (by kernel_rfl) (by kernel_rfl) (by kernel_rfl) (fun _ _ _ h => h) (Or.inl ⟨by rfl, ?_⟩) hHeld ?_
      · intro w hSw
        obtain ⟨hg0, hcvW⟩ := hSw
        first
          | rfl
          | (go_simp; done)
          | (go_simp; rw [hcvW]; done)
          | exact ⟨_, hcvW _⟩
      try simp only [Act.put, List.setIfInBounds_toArray, List.set_cons_zero, List.set_cons_succ]
      refine wpAnyT_one (i := 11) (o := { dst := some 90, op := Op.call { callee := Callee.value (Operand.func 62), args := #[Operand.tmp 86, Operand.tmp 87, Operand.const (Value.int IntKind.i64 0), Operand.tmp 89], argTypes := #[3, 3, 3, 9] }, type := 52, pos := "lines.go:133", after := #[{ on := 7, ground := Ground.data }, { on := 8, ground := Ground.data }, { on := 10, ground := Ground.data }], guard := none }) (by kernel_rfl) rfl (fun K hK => ?_)
      go_simp
      refine Calls.mono (unhide KQ2 _ (unhide BD4)) ?_
      rintro r w5 ⟨o2, oc2, om2, rfl, hom2, he2, b5⟩
      have HE2 := hide he2
      have HE15 := hide ((unhide HE14).call b5)
      have HOM2 := hide hom2
      have BD5 := hide ((unhide BD4).trans (b5.mono (unhide BD4).size))
      have hS5 : w5.cell? ⟨g, 0, none⟩ = some (.slice (some ⟨gr, 0, none⟩) n cr2) ∧ ∀ c, (convert 40 9 (.slice a1 d c)).run Tryd.prog w5 = .ok (.string S) w5 := ⟨kept b5 p4, unhide HCV _ (unhide BD5)⟩
      clear b5 he2 hom2
      go_wp2_with fail
      refine hK.out _ _ (fun _ => hS5) ?_
      clear hK K
      try simp only [Act.put, List.setIfInBounds_toArray, List.set_cons_zero, List.set_cons_succ]
      refine wpAnyT_take (i := 12) (oi := { dst := some 78, op := Op.move (Operand.tmp 90), type := 52, pos := "lines.go:133", after := #[{ on := 11, ground := Ground.data }], guard := none }) (v := .tuple #[.slice o2 om2 oc2, .int .i64 0]) rfl (by kernel_rfl) (by kernel_rfl) (by kernel_rfl) (by kernel_rfl) (fun _ _ _ h => h) (Or.inl ⟨by rfl, ?_⟩) hS5 ?_
      · intro w hSw
        obtain ⟨hg0, hcvW⟩ := hSw
        first
          | rfl
          | (go_simp; done)
      try simp only [Act.put, List.setIfInBounds_toArray, List.set_cons_zero, List.set_cons_succ]
      refine wpAnyT_take (i := 13) (oi := { dst := some 91, op := Op.extract (Operand.tmp 78) 0, type := 51, pos := "lines.go:133", after := #[{ on := 12, ground := Ground.data }], guard := none }) (v := .slice o2 om2 oc2) rfl (by kernel_rfl) (by kernel_rfl) (by kernel_rfl) (by kernel_rfl) (fun _ _ _ h => h) (Or.inl ⟨by rfl, ?_⟩) hS5 ?_
      · intro w hSw
        obtain ⟨hg0, hcvW⟩ := hSw
        first
          | rfl
          | (go_simp; done)
      try simp only [Act.put, List.setIfInBounds_toArray, List.set_cons_zero, List.set_cons_succ]
      refine wpAnyT_take (i := 14) (oi := { dst := some 92, op := Op.extract (Operand.tmp 78) 1, type := 25, pos := "lines.go:133", after := #[{ on := 12, ground := Ground.data }, { on := 15, ground := Ground.gcOnly Departure.lateStores }], guard := none }) (v := .int .i64 0) rfl (by kernel_rfl) (by kernel_rfl) (by kernel_rfl) (by kernel_rfl) (fun _ _ _ h => h) (Or.inl ⟨by rfl, ?_⟩) hS5 ?_
      · intro w hSw
        obtain ⟨hg0, hcvW⟩ := hSw
        first
          | rfl
          | (go_simp; done)
      try simp only [Act.put, List.setIfInBounds_toArray, List.set_cons_zero, List.set_cons_succ]
      refine wpAnyT_take (i := 15) (oi := { dst := some 14, op := Op.assign (Operand.tmp 91), type := 51, pos := "lines.go:133", after := #[{ on := 13, ground := Ground.data }, { on := 11, ground := Ground.chain }, { on := 0, ground := Ground.phase }, { on := 1, ground := Ground.phase }, { on := 2, ground := Ground.phase }, { on := 3, ground := Ground.phase }, { on := 4, ground := Ground.phase }, { on := 5, ground := Ground.phase }, { on := 6, ground := Ground.phase }, { on := 7, ground := Ground.phase }, { on := 8, ground := Ground.phase }, { on := 9, ground := Ground.phase }, { on := 10, ground := Ground.phase }, { on := 11, ground := Ground.phase }, { on := 12, ground := Ground.phase }, { on := 13, ground := Ground.phase }, { on := 14, ground := Ground.textOnly Departure.lateStores }], guard := none }) (v := .slice o2 om2 oc2) rfl (by kernel_rfl) (by kernel_rfl) (by kernel_rfl) (by kernel_rfl) (fun _ _ _ h => h) (Or.inl ⟨by rfl, ?_⟩) hS5 ?_
      · intro w hSw
        obtain ⟨hg0, hcvW⟩ := hSw
        first
          | rfl
          | (go_simp; done)
      try simp only [Act.put, List.setIfInBounds_toArray, List.set_cons_zero, List.set_cons_succ]
      refine wpAnyT_pure (i := 16) (oi := { dst := some 15, op := Op.assign (Operand.tmp 92), type := 25, pos := "lines.go:133", after := #[{ on := 14, ground := Ground.data }, { on := 15, ground := Ground.chain }, { on := 0, ground := Ground.phase }, { on := 1, ground := Ground.phase }, { on := 2, ground := Ground.phase }, { on := 3, ground := Ground.phase }, { on := 4, ground := Ground.phase }, { on := 5, ground := Ground.phase }, { on := 6, ground := Ground.phase }, { on := 7, ground := Ground.phase }, { on := 8, ground := Ground.phase }, { on := 9, ground := Ground.phase }, { on := 10, ground := Ground.phase }, { on := 11, ground := Ground.phase }, { on := 12, ground := Ground.phase }, { on := 13, ground := Ground.phase }, { on := 14, ground := Ground.phase }, { on := 15, ground := Ground.phase }], guard := none }) (v := .int .i64 0) rfl (by kernel_rfl) (by kernel_rfl) (by kernel_rfl) rfl (fun _ _ _ h => h) (Or.inl ⟨by rfl, ?_⟩) ?_
      · intro w hSw
        first
          | rfl
          | (go_simp; done)
      try simp only [Act.put, List.setIfInBounds_toArray, List.set_cons_zero, List.set_cons_succ]
      refine wpAnyT_done (by kernel_rfl) ?_ _
      have KC := hide (compose_at (unhide HU _ (unhide BD5)) (unhide HE15) (unhide HE2) (unhide HOM1) (unhide HOM2) (by have h8 := (unhide HO12).1.2.2.2; have h9 := (unhide HO12).2.2.2.2; have h7 := unhide HOM1; have h6 := unhide HOM2; omega) (Below.refl _ _))
      go_wp2_with fail
      refine Calls.mono (unhide KC) ?_
      rintro r w6 ⟨⟨⟨h6, _⟩ | ⟨_, v6, e6, rfl, ho6, nf6, at6, _⟩, _⟩, b6⟩
      · exfalso
        rw [ed_comB (unhide HO12).1.2.1 (by have h9 := (unhide HO12).2.2.1; rw [← unhide HDD]; rw [← unhide HDD] at h9; exact h9)] at h6
        cases h6
      · have BD6 := hide ((unhide BD5).trans (b6.mono (unhide BD5).size))
        have HO6 := hide (OwnP.base ho6 (unhide BD5).size)
        have HNF := hide (And.intro nf6 at6)
        obtain ⟨a6, c6, rfl, _, _, _⟩ := OwnP.slice ho6
        clear ho6 b6 nf6 at6
        go_wp2_with fail
        go_ret2
        refine ⟨.inr ⟨unhide HM, _, _, rfl, unhide HO6, (unhide HNF).1, ?_⟩, unhide BD6⟩
        have h9 := (unhide HNF).2
        rw [(unhide HO12).1.2.2.1, (unhide HO12).2.2.2.1] at h9
        simp only [Int.toNat_natCast]
        rw [(unhide HFEP).1, (unhide HFEP).2.1, (unhide HFEP).2.2]
        unfold mvA
        rw [unhide HN, unhide HDD]
        exact h9
    · rw [if_neg hft] at hp2
      have hftI : ¬ (f' : Int) < (t' : Int) := by omega
      obtain rfl : p = A := by omega
      clear hp2 hft hgt
      go_wp2_with fail
      refine wp_region_T (S := fun W => (W.cell? ⟨g, 0, none⟩ = some (.slice (some ⟨gr, 0, none⟩) n cr2) ∧ W.cell? ⟨g, 1, none⟩ = some (.slice (some ⟨gs, 0, none⟩) m c_)) ∧ W.cell? ⟨gs, f', none⟩ = some (.int .i64 (F : Int))) (fun i => decide (i < 19)) (by kernel_rfl) ⟨⟨p0, p1⟩, pf⟩ (fun hHeld => ?_)
      have p9 : (w1.drew.cell? ⟨g, 0, none⟩ = some (.slice (some ⟨gr, 0, none⟩) n cr2) ∧ w1.drew.cell? ⟨g, 1, none⟩ = some (.slice (some ⟨gs, 0, none⟩) m c_)) ∧ w1.drew.cell? ⟨gs, f', none⟩ = some (.int .i64 (F : Int)) := hHeld
      obtain ⟨w2, hw2⟩ : ∃ z, w1.drew = z := ⟨_, rfl⟩
      have BD2 := hide ((unhide BD).drew)
      rw [hw2] at BD2 hHeld p9 ⊢
      have p0 : w2.cell? ⟨g, 0, none⟩ = some (.slice (some ⟨gr, 0, none⟩) n cr2) ∧ w2.cell? ⟨g, 1, none⟩ = some (.slice (some ⟨gs, 0, none⟩) m c_) ∧ w2.cell? ⟨gs, f', none⟩ = some (.int .i64 (F : Int)) := ⟨p9.1.1, p9.1.2, p9.2⟩
      clear p1 pf pt p9 hw2
      refine wpAnyT_take (i := 0) (oi := { dst := some 61, op := Op.move (Operand.tmp 0), type := 24, pos := "lines.go:132", after := #[], guard := none }) (v := .pointer (some ⟨g, 0, none⟩)) rfl (by kernel_rfl) (by kernel_rfl) (by kernel_rfl) (by kernel_rfl) (fun _ _ _ h => h) (Or.inl ⟨by rfl, ?_⟩) hHeld ?_
      · intro w hSw
        obtain ⟨⟨hg0, hg1⟩, hgf⟩ := hSw
        first
          | rfl
          | (go_simp; done)
      try simp only [Act.put, List.setIfInBounds_toArray, List.set_cons_zero, List.set_cons_succ]
      refine wpAnyT_take (i := 1) (oi := { dst := some 62, op := Op.nilCheck (Operand.tmp 61), type := 0, pos := "lines.go:132", after := #[{ on := 0, ground := Ground.data }], guard := none }) (v := .pointer (some ⟨g, 0, none⟩)) rfl (by kernel_rfl) (by kernel_rfl) (by kernel_rfl) (by kernel_rfl) (fun _ _ _ h => h) (Or.inl ⟨by rfl, ?_⟩) hHeld ?_
      · intro w hSw
        obtain ⟨⟨hg0, hg1⟩, hgf⟩ := hSw
        first
          | rfl
          | (go_simp; done)
      try simp only [Act.put, List.setIfInBounds_toArray, List.set_cons_zero, List.set_cons_succ]
      refine wpAnyT_take (i := 2) (oi := { dst := some 63, op := Op.fieldAddr 64 (Operand.tmp 62) 0, type := 0, pos := "lines.go:132", after := #[{ on := 1, ground := Ground.data }], guard := none }) (v := .pointer (some ⟨g, 0, none⟩)) rfl (by kernel_rfl) (by kernel_rfl) (by kernel_rfl) (by kernel_rfl) (fun _ _ _ h => h) (Or.inl ⟨by rfl, ?_⟩) hHeld ?_
      · intro w hSw
        obtain ⟨⟨hg0, hg1⟩, hgf⟩ := hSw
        first
          | rfl
          | (go_simp; done)
      try simp only [Act.put, List.setIfInBounds_toArray, List.set_cons_zero, List.set_cons_succ]
      refine wpAnyT_take (i := 3) (oi := { dst := some 64, op := Op.load 40 (Operand.tmp 63), type := 40, pos := "lines.go:132", after := #[{ on := 2, ground := Ground.data }], guard := none }) (v := .slice (some ⟨gr, 0, none⟩) n cr2) rfl (by kernel_rfl) (by kernel_rfl) (by kernel_rfl) (by kernel_rfl) (fun _ _ _ h => h) (Or.inl ⟨by rfl, ?_⟩) hHeld ?_
      · intro w hSw
        obtain ⟨⟨hg0, hg1⟩, hgf⟩ := hSw
        first
          | rfl
          | (go_simp; done)
      try simp only [Act.put, List.setIfInBounds_toArray, List.set_cons_zero, List.set_cons_succ]
      refine wpAnyT_take (i := 4) (oi := { dst := some 65, op := Op.call { callee := Callee.builtin Builtin.len, args := #[Operand.tmp 64], argTypes := #[40] }, type := 3, pos := "lines.go:132", after := #[{ on := 3, ground := Ground.data }], guard := none }) (v := .int .i64 (n : Int)) rfl (by kernel_rfl) (by kernel_rfl) (by kernel_rfl) (by kernel_rfl) (fun _ _ _ h => h) (Or.inl ⟨by rfl, ?_⟩) hHeld ?_
      · intro w hSw
        obtain ⟨⟨hg0, hg1⟩, hgf⟩ := hSw
        first
          | rfl
          | (go_simp; done)
      try simp only [Act.put, List.setIfInBounds_toArray, List.set_cons_zero, List.set_cons_succ]
      refine wpAnyT_take (i := 5) (oi := { dst := some 66, op := Op.move (Operand.tmp 0), type := 24, pos := "lines.go:132", after := #[], guard := none }) (v := .pointer (some ⟨g, 0, none⟩)) rfl (by kernel_rfl) (by kernel_rfl) (by kernel_rfl) (by kernel_rfl) (fun _ _ _ h => h) (Or.inl ⟨by rfl, ?_⟩) hHeld ?_
      · intro w hSw
        obtain ⟨⟨hg0, hg1⟩, hgf⟩ := hSw
        first
          | rfl
          | (go_simp; done)
      try simp only [Act.put, List.setIfInBounds_toArray, List.set_cons_zero, List.set_cons_succ]
      refine wpAnyT_take (i := 6) (oi := { dst := some 67, op := Op.nilCheck (Operand.tmp 66), type := 0, pos := "lines.go:132", after := #[{ on := 5, ground := Ground.data }], guard := none }) (v := .pointer (some ⟨g, 0, none⟩)) rfl (by kernel_rfl) (by kernel_rfl) (by kernel_rfl) (by kernel_rfl) (fun _ _ _ h => h) (Or.inl ⟨by rfl, ?_⟩) hHeld ?_
      · intro w hSw
        obtain ⟨⟨hg0, hg1⟩, hgf⟩ := hSw
        first
          | rfl
          | (go_simp; done)
      try simp only [Act.put, List.setIfInBounds_toArray, List.set_cons_zero, List.set_cons_succ]
      refine wpAnyT_take (i := 7) (oi := { dst := some 68, op := Op.fieldAddr 64 (Operand.tmp 67) 1, type := 0, pos := "lines.go:132", after := #[{ on := 6, ground := Ground.data }], guard := none }) (v := .pointer (some ⟨g, 1, none⟩)) rfl (by kernel_rfl) (by kernel_rfl) (by kernel_rfl) (by kernel_rfl) (fun _ _ _ h => h) (Or.inl ⟨by rfl, ?_⟩) hHeld ?_
      · intro w hSw
        obtain ⟨⟨hg0, hg1⟩, hgf⟩ := hSw
        first
          | rfl
          | (go_simp; done)
      try simp only [Act.put, List.setIfInBounds_toArray, List.set_cons_zero, List.set_cons_succ]
      refine wpAnyT_take (i := 8) (oi := { dst := some 69, op := Op.load 38 (Operand.tmp 68), type := 38, pos := "lines.go:132", after := #[{ on := 7, ground := Ground.data }], guard := none }) (v := .slice (some ⟨gs, 0, none⟩) m c_) rfl (by kernel_rfl) (by kernel_rfl) (by kernel_rfl) (by kernel_rfl) (fun _ _ _ h => h) (Or.inl ⟨by rfl, ?_⟩) hHeld ?_
      · intro w hSw
        obtain ⟨⟨hg0, hg1⟩, hgf⟩ := hSw
        first
          | rfl
          | (go_simp; done)
      try simp only [Act.put, List.setIfInBounds_toArray, List.set_cons_zero, List.set_cons_succ]
      refine wpAnyT_take (i := 9) (oi := { dst := some 70, op := Op.move (Operand.tmp 1), type := 3, pos := "lines.go:132", after := #[], guard := none }) (v := .int .i64 (f' : Int)) rfl (by kernel_rfl) (by kernel_rfl) (by kernel_rfl) (by kernel_rfl) (fun _ _ _ h => h) (Or.inl ⟨by rfl, ?_⟩) hHeld ?_
      · intro w hSw
        obtain ⟨⟨hg0, hg1⟩, hgf⟩ := hSw
        first
          | rfl
          | (go_simp; done)
      try simp only [Act.put, List.setIfInBounds_toArray, List.set_cons_zero, List.set_cons_succ]
      refine wpAnyT_take (i := 10) (oi := { dst := some 71, op := Op.indexAddr 38 (Operand.tmp 69) (Operand.tmp 70), type := 0, pos := "lines.go:132", after := #[{ on := 8, ground := Ground.data }, { on := 9, ground := Ground.data }], guard := none }) (v := .pointer (some ⟨gs, f', none⟩)) rfl (by kernel_rfl) (by kernel_rfl) (by kernel_rfl) (by kernel_rfl) (fun _ _ _ h => h) (Or.inl ⟨by rfl, ?_⟩) hHeld ?_
      · intro w hSw
        obtain ⟨⟨hg0, hg1⟩, hgf⟩ := hSw
        first
          | rfl
          | (go_simp; done)
      try simp only [Act.put, List.setIfInBounds_toArray, List.set_cons_zero, List.set_cons_succ]
      refine wpAnyT_take (i := 11) (oi := { dst := some 72, op := Op.load 3 (Operand.tmp 71), type := 3, pos := "lines.go:132", after := #[{ on := 10, ground := Ground.data }], guard := none }) (v := .int .i64 (F : Int)) rfl (by kernel_rfl) (by kernel_rfl) (by kernel_rfl) (by kernel_rfl) (fun _ _ _ h => h) (Or.inl ⟨by rfl, ?_⟩) hHeld ?_
      · intro w hSw
        obtain ⟨⟨hg0, hg1⟩, hgf⟩ := hSw
        first
          | rfl
          | (go_simp; done)
      try simp only [Act.put, List.setIfInBounds_toArray, List.set_cons_zero, List.set_cons_succ]
      refine wpAnyT_take (i := 12) (oi := { dst := some 73, op := Op.move (Operand.tmp 10), type := 40, pos := "lines.go:132", after := #[], guard := none }) (v := .slice a1 d (cr2 - F)) rfl (by kernel_rfl) (by kernel_rfl) (by kernel_rfl) (by kernel_rfl) (fun _ _ _ h => h) (Or.inl ⟨by rfl, ?_⟩) hHeld ?_
      · intro w hSw
        obtain ⟨⟨hg0, hg1⟩, hgf⟩ := hSw
        first
          | rfl
          | (go_simp; done)
      try simp only [Act.put, List.setIfInBounds_toArray, List.set_cons_zero, List.set_cons_succ]
      refine wpAnyT_take (i := 13) (oi := { dst := some 74, op := Op.call { callee := Callee.builtin Builtin.len, args := #[Operand.tmp 73], argTypes := #[40] }, type := 3, pos := "lines.go:132", after := #[{ on := 12, ground := Ground.data }], guard := none }) (v := .int .i64 (d : Int)) rfl (by kernel_rfl) (by kernel_rfl) (by kernel_rfl) (by kernel_rfl) (fun _ _ _ h => h) (Or.inl ⟨by rfl, ?_⟩) hHeld ?_
      · intro w hSw
        obtain ⟨⟨hg0, hg1⟩, hgf⟩ := hSw
        first
          | rfl
          | (go_simp; done)
      try simp only [Act.put, List.setIfInBounds_toArray, List.set_cons_zero, List.set_cons_succ]
      refine wpAnyT_one (i := 14) (o := { dst := some 75, op := Op.call { callee := Callee.value (Operand.func 62), args := #[Operand.tmp 65, Operand.tmp 72, Operand.tmp 74, Operand.const (Value.string { data := #[] })], argTypes := #[3, 3, 3, 9] }, type := 52, pos := "lines.go:132", after := #[{ on := 4, ground := Ground.data }, { on := 11, ground := Ground.data }, { on := 13, ground := Ground.data }], guard := none }) (by kernel_rfl) rfl (fun K hK => ?_)
      go_simp
      refine Calls.mono (unhide KQ1 _ (unhide BD2)) ?_
      rintro r w3 ⟨o1, oc1, om1, rfl, hom1, he1, b3⟩
      have hS3 : (w3.cell? ⟨g, 0, none⟩ = some (.slice (some ⟨gr, 0, none⟩) n cr2) ∧ w3.cell? ⟨g, 1, none⟩ = some (.slice (some ⟨gs, 0, none⟩) m c_)) ∧ w3.cell? ⟨gs, f', none⟩ = some (.int .i64 (F : Int)) := ⟨⟨kept b3 p0.1, kept b3 p0.2.1⟩, kept b3 p0.2.2⟩
      have BD3 := hide ((unhide BD2).trans (b3.mono (unhide BD2).size))
      have HE1 := hide he1
      have HOM1 := hide hom1
      clear b3 he1 hom1
      go_wp2_with fail
      refine hK.out _ _ (fun _ => hS3) ?_
      clear hK K
      try simp only [Act.put, List.setIfInBounds_toArray, List.set_cons_zero, List.set_cons_succ]
      refine wpAnyT_take (i := 15) (oi := { dst := some 60, op := Op.move (Operand.tmp 75), type := 52, pos := "lines.go:132", after := #[{ on := 14, ground := Ground.data }], guard := none }) (v := .tuple #[.slice o1 om1 oc1, .int .i64 0]) rfl (by kernel_rfl) (by kernel_rfl) (by kernel_rfl) (by kernel_rfl) (fun _ _ _ h => h) (Or.inl ⟨by rfl, ?_⟩) hS3 ?_
      · intro w hSw
        obtain ⟨⟨hg0, hg1⟩, hgf⟩ := hSw
        first
          | rfl
          | (go_simp; done)
      try simp only [Act.put, List.setIfInBounds_toArray, List.set_cons_zero, List.set_cons_succ]
      refine wpAnyT_take (i := 16) (oi := { dst := some 76, op := Op.extract (Operand.tmp 60) 0, type := 51, pos := "lines.go:132", after := #[{ on := 15, ground := Ground.data }], guard := none }) (v := .slice o1 om1 oc1) rfl (by kernel_rfl) (by kernel_rfl) (by kernel_rfl) (by kernel_rfl) (fun _ _ _ h => h) (Or.inl ⟨by rfl, ?_⟩) hS3 ?_
      · intro w hSw
        obtain ⟨⟨hg0, hg1⟩, hgf⟩ := hSw
        first
          | rfl
          | (go_simp; done)
      try simp only [Act.put, List.setIfInBounds_toArray, List.set_cons_zero, List.set_cons_succ]
      refine wpAnyT_take (i := 17) (oi := { dst := some 77, op := Op.extract (Operand.tmp 60) 1, type := 25, pos := "lines.go:132", after := #[{ on := 15, ground := Ground.data }, { on := 18, ground := Ground.gcOnly Departure.lateStores }], guard := none }) (v := .int .i64 0) rfl (by kernel_rfl) (by kernel_rfl) (by kernel_rfl) (by kernel_rfl) (fun _ _ _ h => h) (Or.inl ⟨by rfl, ?_⟩) hS3 ?_
      · intro w hSw
        obtain ⟨⟨hg0, hg1⟩, hgf⟩ := hSw
        first
          | rfl
          | (go_simp; done)
      try simp only [Act.put, List.setIfInBounds_toArray, List.set_cons_zero, List.set_cons_succ]
      refine wpAnyT_take (i := 18) (oi := { dst := some 12, op := Op.assign (Operand.tmp 76), type := 51, pos := "lines.go:132", after := #[{ on := 16, ground := Ground.data }, { on := 14, ground := Ground.chain }, { on := 0, ground := Ground.phase }, { on := 1, ground := Ground.phase }, { on := 2, ground := Ground.phase }, { on := 3, ground := Ground.phase }, { on := 4, ground := Ground.phase }, { on := 5, ground := Ground.phase }, { on := 6, ground := Ground.phase }, { on := 7, ground := Ground.phase }, { on := 8, ground := Ground.phase }, { on := 9, ground := Ground.phase }, { on := 10, ground := Ground.phase }, { on := 11, ground := Ground.phase }, { on := 12, ground := Ground.phase }, { on := 13, ground := Ground.phase }, { on := 14, ground := Ground.phase }, { on := 15, ground := Ground.phase }, { on := 16, ground := Ground.phase }, { on := 17, ground := Ground.textOnly Departure.lateStores }], guard := none }) (v := .slice o1 om1 oc1) rfl (by kernel_rfl) (by kernel_rfl) (by kernel_rfl) (by kernel_rfl) (fun _ _ _ h => h) (Or.inl ⟨by rfl, ?_⟩) hS3 ?_
      · intro w hSw
        obtain ⟨⟨hg0, hg1⟩, hgf⟩ := hSw
        first
          | rfl
          | (go_simp; done)
      try simp only [Act.put, List.setIfInBounds_toArray, List.set_cons_zero, List.set_cons_succ]
      refine wpAnyT_pure (i := 19) (oi := { dst := some 13, op := Op.assign (Operand.tmp 77), type := 25, pos := "lines.go:132", after := #[{ on := 17, ground := Ground.data }, { on := 18, ground := Ground.chain }, { on := 0, ground := Ground.phase }, { on := 1, ground := Ground.phase }, { on := 2, ground := Ground.phase }, { on := 3, ground := Ground.phase }, { on := 4, ground := Ground.phase }, { on := 5, ground := Ground.phase }, { on := 6, ground := Ground.phase }, { on := 7, ground := Ground.phase }, { on := 8, ground := Ground.phase }, { on := 9, ground := Ground.phase }, { on := 10, ground := Ground.phase }, { on := 11, ground := Ground.phase }, { on := 12, ground := Ground.phase }, { on := 13, ground := Ground.phase }, { on := 14, ground := Ground.phase }, { on := 15, ground := Ground.phase }, { on := 16, ground := Ground.phase }, { on := 17, ground := Ground.phase }, { on := 18, ground := Ground.phase }], guard := none }) (v := .int .i64 0) rfl (by kernel_rfl) (by kernel_rfl) (by kernel_rfl) rfl (fun _ _ _ h => h) (Or.inl ⟨by rfl, ?_⟩) ?_
      · intro w hSw
        first
          | rfl
          | (go_simp; done)
      try simp only [Act.put, List.setIfInBounds_toArray, List.set_cons_zero, List.set_cons_succ]
      refine wpAnyT_done (by kernel_rfl) ?_ _
      go_wp2_with fail
      have p4' : w3.cell? ⟨g, 0, none⟩ = some (.slice (some ⟨gr, 0, none⟩) n cr2) := hS3.1.1
      clear hS3
      refine wp_region_T (S := fun W => W.cell? ⟨g, 0, none⟩ = some (.slice (some ⟨gr, 0, none⟩) n cr2) ∧ ∀ c, (convert 40 9 (.slice a1 d c)).run Tryd.prog W = .ok (.string S) W) (fun i => decide (i < 16)) (by kernel_rfl) ⟨p4', unhide HCV _ (unhide BD3).drew⟩ (fun hHeld => ?_)
      have p4 : w3.drew.cell? ⟨g, 0, none⟩ = some (.slice (some ⟨gr, 0, none⟩) n cr2) := hHeld.1
      have BD4 := hide ((unhide BD3).drew)
      have HE14 := hide ((unhide HE1).call (Below.refl _ _).drew)
      obtain ⟨w4, hw4⟩ : ∃ z, w3.drew = z := ⟨_, rfl⟩
      rw [hw4] at BD4 hHeld p4 HE14 ⊢
      clear hw4 p4'
      refine wpAnyT_take (i := 0) (oi := { dst := some 79, op := Op.move (Operand.tmp 0), type := 24, pos := "lines.go:133", after := #[], guard := none }) (v := .pointer (some ⟨g, 0, none⟩)) rfl (by kernel_rfl) (by kernel_rfl) (by kernel_rfl) (by kernel_rfl) (fun _ _ _ h => h) (Or.inl ⟨by rfl, ?_⟩) hHeld ?_
      · intro w hSw
        obtain ⟨hg0, hcvW⟩ := hSw
        first
          | rfl
          | (go_simp; done)
      try simp only [Act.put, List.setIfInBounds_toArray, List.set_cons_zero, List.set_cons_succ]
      refine wpAnyT_take (i := 1) (oi := { dst := some 80, op := Op.nilCheck (Operand.tmp 79), type := 0, pos := "lines.go:133", after := #[{ on := 0, ground := Ground.data }], guard := none }) (v := .pointer (some ⟨g, 0, none⟩)) rfl (by kernel_rfl) (by kernel_rfl) (by kernel_rfl) (by kernel_rfl) (fun _ _ _ h => h) (Or.inl ⟨by rfl, ?_⟩) hHeld ?_
      · intro w hSw
        obtain ⟨hg0, hcvW⟩ := hSw
        first
          | rfl
          | (go_simp; done)
      try simp only [Act.put, List.setIfInBounds_toArray, List.set_cons_zero, List.set_cons_succ]
      refine wpAnyT_take (i := 2) (oi := { dst := some 81, op := Op.fieldAddr 64 (Operand.tmp 80) 0, type := 0, pos := "lines.go:133", after := #[{ on := 1, ground := Ground.data }], guard := none }) (v := .pointer (some ⟨g, 0, none⟩)) rfl (by kernel_rfl) (by kernel_rfl) (by kernel_rfl) (by kernel_rfl) (fun _ _ _ h => h) (Or.inl ⟨by rfl, ?_⟩) hHeld ?_
      · intro w hSw
        obtain ⟨hg0, hcvW⟩ := hSw
        first
          | rfl
          | (go_simp; done)
      try simp only [Act.put, List.setIfInBounds_toArray, List.set_cons_zero, List.set_cons_succ]
      refine wpAnyT_take (i := 3) (oi := { dst := some 82, op := Op.load 40 (Operand.tmp 81), type := 40, pos := "lines.go:133", after := #[{ on := 2, ground := Ground.data }], guard := none }) (v := .slice (some ⟨gr, 0, none⟩) n cr2) rfl (by kernel_rfl) (by kernel_rfl) (by kernel_rfl) (by kernel_rfl) (fun _ _ _ h => h) (Or.inl ⟨by rfl, ?_⟩) hHeld ?_
      · intro w hSw
        obtain ⟨hg0, hcvW⟩ := hSw
        first
          | rfl
          | (go_simp; done)
      try simp only [Act.put, List.setIfInBounds_toArray, List.set_cons_zero, List.set_cons_succ]
      refine wpAnyT_take (i := 4) (oi := { dst := some 83, op := Op.call { callee := Callee.builtin Builtin.len, args := #[Operand.tmp 82], argTypes := #[40] }, type := 3, pos := "lines.go:133", after := #[{ on := 3, ground := Ground.data }], guard := none }) (v := .int .i64 (n : Int)) rfl (by kernel_rfl) (by kernel_rfl) (by kernel_rfl) (by kernel_rfl) (fun _ _ _ h => h) (Or.inl ⟨by rfl, ?_⟩) hHeld ?_
      · intro w hSw
        obtain ⟨hg0, hcvW⟩ := hSw
        first
          | rfl
          | (go_simp; done)
      try simp only [Act.put, List.setIfInBounds_toArray, List.set_cons_zero, List.set_cons_succ]
      refine wpAnyT_take (i := 5) (oi := { dst := some 84, op := Op.move (Operand.tmp 10), type := 40, pos := "lines.go:133", after := #[], guard := none }) (v := .slice a1 d (cr2 - F)) rfl (by kernel_rfl) (by kernel_rfl) (by kernel_rfl) (by kernel_rfl) (fun _ _ _ h => h) (Or.inl ⟨by rfl, ?_⟩) hHeld ?_
      · intro w hSw
        obtain ⟨hg0, hcvW⟩ := hSw
        first
          | rfl
          | (go_simp; done)
      try simp only [Act.put, List.setIfInBounds_toArray, List.set_cons_zero, List.set_cons_succ]
      refine wpAnyT_take (i := 6) (oi := { dst := some 85, op := Op.call { callee := Callee.builtin Builtin.len, args := #[Operand.tmp 84], argTypes := #[40] }, type := 3, pos := "lines.go:133", after := #[{ on := 5, ground := Ground.data }], guard := none }) (v := .int .i64 (d : Int)) rfl (by kernel_rfl) (by kernel_rfl) (by kernel_rfl) (by kernel_rfl) (fun _ _ _ h => h) (Or.inl ⟨by rfl, ?_⟩) hHeld ?_
      · intro w hSw
        obtain ⟨hg0, hcvW⟩ := hSw
        first
          | rfl
          | (go_simp; done)
      try simp only [Act.put, List.setIfInBounds_toArray, List.set_cons_zero, List.set_cons_succ]
      refine wpAnyT_take (i := 7) (oi := { dst := some 86, op := Op.binOp BinOp.sub 3 (Operand.tmp 83) (Operand.tmp 85) 3, type := 3, pos := "lines.go:133", after := #[{ on := 4, ground := Ground.data }, { on := 6, ground := Ground.data }], guard := none }) (v := .int .i64 ((n : Int) - (d : Int))) rfl (by kernel_rfl) (by kernel_rfl) (by kernel_rfl) (by kernel_rfl) (fun _ _ _ h => h) (Or.inl ⟨by rfl, ?_⟩) hHeld ?_
      · intro w hSw
        obtain ⟨hg0, hcvW⟩ := hSw
        first
          | (go_simp; done)
          | (go_simp; rw [IntKind.wrap_i64] <;> omega)
      try simp only [Act.put, List.setIfInBounds_toArray, List.set_cons_zero, List.set_cons_succ]
      refine wpAnyT_take (i := 8) (oi := { dst := some 87, op := Op.move (Operand.tmp 11), type := 3, pos := "lines.go:133", after := #[], guard := none }) (v := .int .i64 (p : Int)) rfl (by kernel_rfl) (by kernel_rfl) (by kernel_rfl) (by kernel_rfl) (fun _ _ _ h => h) (Or.inl ⟨by rfl, ?_⟩) hHeld ?_
      · intro w hSw
        obtain ⟨hg0, hcvW⟩ := hSw
        first
          | rfl
          | (go_simp; done)
      try simp only [Act.put, List.setIfInBounds_toArray, List.set_cons_zero, List.set_cons_succ]
      refine wpAnyT_take (i := 9) (oi := { dst := some 88, op := Op.move (Operand.tmp 10), type := 40, pos := "lines.go:133", after := #[], guard := none }) (v := .slice a1 d (cr2 - F)) rfl (by kernel_rfl) (by kernel_rfl) (by kernel_rfl) (by kernel_rfl) (fun _ _ _ h => h) (Or.inl ⟨by rfl, ?_⟩) hHeld ?_
      · intro w hSw
        obtain ⟨hg0, hcvW⟩ := hSw
        first
          | rfl
          | (go_simp; done)
      try simp only [Act.put, List.setIfInBounds_toArray, List.set_cons_zero, List.set_cons_succ]
      refine wpAnyT_take (i := 10) (oi := { dst := some 89, op := Op.convert 40 9 (Operand.tmp 88), type := 9, pos := "lines.go:133", after := #[{ on := 9, ground := Ground.data }], guard := none }) (v := .string S) rfl (by kernel_rfl) (by kernel_rfl) (by kernel_rfl) (by kernel_rfl) (fun _ _ _ h => h) (Or.inl ⟨by rfl, ?_⟩) hHeld ?_
      · intro w hSw
        obtain ⟨hg0, hcvW⟩ := hSw
        first
          | rfl
          | (go_simp; done)
          | (go_simp; rw [hcvW]; done)
          | exact ⟨_, hcvW _⟩
      try simp only [Act.put, List.setIfInBounds_toArray, List.set_cons_zero, List.set_cons_succ]
      refine wpAnyT_one (i := 11) (o := { dst := some 90, op := Op.call { callee := Callee.value (Operand.func 62), args := #[Operand.tmp 86, Operand.tmp 87, Operand.const (Value.int IntKind.i64 0), Operand.tmp 89], argTypes := #[3, 3, 3, 9] }, type := 52, pos := "lines.go:133", after := #[{ on := 7, ground := Ground.data }, { on := 8, ground := Ground.data }, { on := 10, ground := Ground.data }], guard := none }) (by kernel_rfl) rfl (fun K hK => ?_)
      go_simp
      refine Calls.mono (unhide KQ2 _ (unhide BD4)) ?_
      rintro r w5 ⟨o2, oc2, om2, rfl, hom2, he2, b5⟩
      have HE2 := hide he2
      have HE15 := hide ((unhide HE14).call b5)
      have HOM2 := hide hom2
      have BD5 := hide ((unhide BD4).trans (b5.mono (unhide BD4).size))
      have hS5 : w5.cell? ⟨g, 0, none⟩ = some (.slice (some ⟨gr, 0, none⟩) n cr2) ∧ ∀ c, (convert 40 9 (.slice a1 d c)).run Tryd.prog w5 = .ok (.string S) w5 := ⟨kept b5 p4, unhide HCV _ (unhide BD5)⟩
      clear b5 he2 hom2
      go_wp2_with fail
      refine hK.out _ _ (fun _ => hS5) ?_
      clear hK K
      try simp only [Act.put, List.setIfInBounds_toArray, List.set_cons_zero, List.set_cons_succ]
      refine wpAnyT_take (i := 12) (oi := { dst := some 78, op := Op.move (Operand.tmp 90), type := 52, pos := "lines.go:133", after := #[{ on := 11, ground := Ground.data }], guard := none }) (v := .tuple #[.slice o2 om2 oc2, .int .i64 0]) rfl (by kernel_rfl) (by kernel_rfl) (by kernel_rfl) (by kernel_rfl) (fun _ _ _ h => h) (Or.inl ⟨by rfl, ?_⟩) hS5 ?_
      · intro w hSw
        obtain ⟨hg0, hcvW⟩ := hSw
        first
          | rfl
          | (go_simp; done)
      try simp only [Act.put, List.setIfInBounds_toArray, List.set_cons_zero, List.set_cons_succ]
      refine wpAnyT_take (i := 13) (oi := { dst := some 91, op := Op.extract (Operand.tmp 78) 0, type := 51, pos := "lines.go:133", after := #[{ on := 12, ground := Ground.data }], guard := none }) (v := .slice o2 om2 oc2) rfl (by kernel_rfl) (by kernel_rfl) (by kernel_rfl) (by kernel_rfl) (fun _ _ _ h => h) (Or.inl ⟨by rfl, ?_⟩) hS5 ?_
      · intro w hSw
        obtain ⟨hg0, hcvW⟩ := hSw
        first
          | rfl
          | (go_simp; done)
      try simp only [Act.put, List.setIfInBounds_toArray, List.set_cons_zero, List.set_cons_succ]
      refine wpAnyT_take (i := 14) (oi := { dst := some 92, op := Op.extract (Operand.tmp 78) 1, type := 25, pos := "lines.go:133", after := #[{ on := 12, ground := Ground.data }, { on := 15, ground := Ground.gcOnly Departure.lateStores }], guard := none }) (v := .int .i64 0) rfl (by kernel_rfl) (by kernel_rfl) (by kernel_rfl) (by kernel_rfl) (fun _ _ _ h => h) (Or.inl ⟨by rfl, ?_⟩) hS5 ?_
      · intro w hSw
        obtain ⟨hg0, hcvW⟩ := hSw
        first
          | rfl
          | (go_simp; done)
      try simp only [Act.put, List.setIfInBounds_toArray, List.set_cons_zero, List.set_cons_succ]
      refine wpAnyT_take (i := 15) (oi := { dst := some 14, op := Op.assign (Operand.tmp 91), type := 51, pos := "lines.go:133", after := #[{ on := 13, ground := Ground.data }, { on := 11, ground := Ground.chain }, { on := 0, ground := Ground.phase }, { on := 1, ground := Ground.phase }, { on := 2, ground := Ground.phase }, { on := 3, ground := Ground.phase }, { on := 4, ground := Ground.phase }, { on := 5, ground := Ground.phase }, { on := 6, ground := Ground.phase }, { on := 7, ground := Ground.phase }, { on := 8, ground := Ground.phase }, { on := 9, ground := Ground.phase }, { on := 10, ground := Ground.phase }, { on := 11, ground := Ground.phase }, { on := 12, ground := Ground.phase }, { on := 13, ground := Ground.phase }, { on := 14, ground := Ground.textOnly Departure.lateStores }], guard := none }) (v := .slice o2 om2 oc2) rfl (by kernel_rfl) (by kernel_rfl) (by kernel_rfl) (by kernel_rfl) (fun _ _ _ h => h) (Or.inl ⟨by rfl, ?_⟩) hS5 ?_
      · intro w hSw
        obtain ⟨hg0, hcvW⟩ := hSw
        first
          | rfl
          | (go_simp; done)
      try simp only [Act.put, List.setIfInBounds_toArray, List.set_cons_zero, List.set_cons_succ]
      refine wpAnyT_pure (i := 16) (oi := { dst := some 15, op := Op.assign (Operand.tmp 92), type := 25, pos := "lines.go:133", after := #[{ on := 14, ground := Ground.data }, { on := 15, ground := Ground.chain }, { on := 0, ground := Ground.phase }, { on := 1, ground := Ground.phase }, { on := 2, ground := Ground.phase }, { on := 3, ground := Ground.phase }, { on := 4, ground := Ground.phase }, { on := 5, ground := Ground.phase }, { on := 6, ground := Ground.phase }, { on := 7, ground := Ground.phase }, { on := 8, ground := Ground.phase }, { on := 9, ground := Ground.phase }, { on := 10, ground := Ground.phase }, { on := 11, ground := Ground.phase }, { on := 12, ground := Ground.phase }, { on := 13, ground := Ground.phase }, { on := 14, ground := Ground.phase }, { on := 15, ground := Ground.phase }], guard := none }) (v := .int .i64 0) rfl (by kernel_rfl) (by kernel_rfl) (by kernel_rfl) rfl (fun _ _ _ h => h) (Or.inl ⟨by rfl, ?_⟩) ?_
      · intro w hSw
        first
          | rfl
          | (go_simp; done)
      try simp only [Act.put, List.setIfInBounds_toArray, List.set_cons_zero, List.set_cons_succ]
      refine wpAnyT_done (by kernel_rfl) ?_ _
      have KC := hide (compose_at (unhide HU _ (unhide BD5)) (unhide HE15) (unhide HE2) (unhide HOM1) (unhide HOM2) (by have h8 := (unhide HO12).1.2.2.2; have h9 := (unhide HO12).2.2.2.2; have h7 := unhide HOM1; have h6 := unhide HOM2; omega) (Below.refl _ _))
      go_wp2_with fail
      refine Calls.mono (unhide KC) ?_
      rintro r w6 ⟨⟨⟨h6, _⟩ | ⟨_, v6, e6, rfl, ho6, nf6, at6, _⟩, _⟩, b6⟩
      · exfalso
        rw [ed_comB (unhide HO12).1.2.1 (by have h9 := (unhide HO12).2.2.1; rw [← unhide HDD]; rw [← unhide HDD] at h9; exact h9)] at h6
        cases h6
      · have BD6 := hide ((unhide BD5).trans (b6.mono (unhide BD5).size))
        have HO6 := hide (OwnP.base ho6 (unhide BD5).size)
        have HNF := hide (And.intro nf6 at6)
        obtain ⟨a6, c6, rfl, _, _, _⟩ := OwnP.slice ho6
        clear ho6 b6 nf6 at6
        go_wp2_with fail
        go_ret2
        refine ⟨.inr ⟨unhide HM, _, _, rfl, unhide HO6, (unhide HNF).1, ?_⟩, unhide BD6⟩
        have h9 := (unhide HNF).2
        rw [(unhide HO12).1.2.2.1, (unhide HO12).2.2.2.1] at h9
        simp only [Int.toNat_natCast]
        rw [(unhide HFEP).1, (unhide HFEP).2.1, (unhide HFEP).2.2]
        unfold mvA
        rw [unhide HN, unhide HDD]
        exact h9
end Go.Proofs.YtdnbhomjfgpcfaaDoor

namespace Go.Proofs.YtdnbhomjfgpcfaaDoor
set_option linter.unusedVariables false
set_option linter.unusedSimpArgs false
open Go.ChangeShapes Go.WideShapes Go.ChangeAt Go.RowKit Go.Joins Go.Deep

theorem FindR.at_ {s : ByteArray} {cs cp : List (List UInt8)} {w w' : World} {r : Ending} (h : FindR s cs w r w') (hx : Tx s cp) (h0 : cp ≠ []) : (∃ v, r = .returned (.tuple #[v, .int .i64 0]) ∧ w'.ownsRow w.heap.size 3 1 v (occL cp cs).length (nsv (occL cp cs))) ∧ Below w.heap.size w w' := by
  obtain ⟨⟨hv, _⟩ | ⟨cp', hx', h⟩, hb⟩ := h
  · rw [hx.valid] at hv; cases hv
  · obtain rfl := hx.inj hx'
    rcases h with ⟨h1, _⟩ | ⟨_, h2⟩
    · exact absurd h1 h0
    · exact ⟨h2, hb⟩
theorem SwapR.at_ {s t : ByteArray} {cs cp cw : List (List UInt8)} {w w' : World} {r : Ending} (h : SwapR s t cs w r w') (hx : Tx s cp) (hy : Tx t cw) (h0 : cp ≠ []) : (∃ v l, r = .returned (.tuple #[v, .int .i64 0]) ∧ OwnP w' w.heap.size v l ∧ NfG 0 l ∧ atomsL l = At.can (swA (rni cp) cw (rni cs))) ∧ Below w.heap.size w w' := by
  obtain ⟨⟨hv, _⟩ | ⟨cp', hx', h⟩, hb⟩ := h
  · rw [hx.valid] at hv; cases hv
  · obtain rfl := hx.inj hx'
    rcases h with ⟨hv, _⟩ | ⟨cw', hy', h⟩
    · rw [hy.valid] at hv; cases hv
    · obtain rfl := hy.inj hy'
      rcases h with ⟨h1, _⟩ | ⟨_, h2⟩
      · exact absurd h1 h0
      · exact ⟨h2, hb⟩
theorem MovR.at_ {cs : List (List UInt8)} {f k t : Int} {w w' : World} {r : Ending} (h : MovR cs f k t w r w') (hm : movB (sts cs).length f k t = true) : (∃ v l, r = .returned (.tuple #[v, .int .i64 0]) ∧ OwnP w' w.heap.size v l ∧ NfG 0 l ∧ atomsL l = At.can (mvA cs (stN cs f.toNat) (stN cs (f.toNat + k.toNat)) (mvP cs f.toNat k.toNat t.toNat))) ∧ Below w.heap.size w w' := by
  obtain ⟨⟨hv, _⟩ | ⟨_, h⟩, hb⟩ := h
  · rw [hm] at hv; cases hv
  · exact ⟨h, hb⟩
theorem can_ed {l : List Pt} {X : List At} {n m : Nat} (h : NfG 0 l) (e : atomsL l = At.can X) (hf : At.fromN X = n) (ht : At.toN X = m) (h1 : n ≤ 1099511627776) (h2 : m ≤ 1099511627776) : IsEd l n m := ⟨h, by rw [e, ← At.fromN_sw (At.can_sw X)]; exact hf, by rw [e, ← At.toN_sw (At.can_sw X)]; exact ht, h1, h2⟩
theorem nfl {l : List Pt} : ∀ {a : Int}, NfG a l → l.length ≤ At.fromN (atomsL l) + At.toN (atomsL l) := by
  induction l with
  | nil => intro a h; simp
  | cons p l ih =>
    intro a h
    obtain ⟨hg, _, _, h4⟩ := h
    have i1 := ih h4
    have c := hg.counts
    have h1 := hg.1
    rw [atomsL, At.from_app, At.to_app, List.length_cons]
    have c1 := c.1
    have c2 := c.2.1
    split at c1 <;> split at c2 <;> omega
theorem ed_own {w : World} {B : Nat} {v : Value} {l : List Pt} {n m : Nat} (h : OwnP w B v l) (he : IsEd l n m) (hn : n + m ≤ 4398046511104) : ∃ a c, v = .slice a l.length c ∧ Edit w a l c :=
  h.edit (ed_txt he) (by have := nfl he.1; rw [he.2.1, he.2.2.1] at this; omega)
theorem aw_at : atE [[97], [98], [10], [99], [100]] 1 9 = .tuple #[.int .i64 5, .int .i64 0] := by rfl
theorem aw_where : whereE [[97], [98], [10], [99], [100]] 3 = .tuple #[.int .i64 1, .int .i64 0, .int .i64 0] := by rfl
theorem aw_find : occL [[97], [97]] [[97], [97], [97]] = [0, 1] := by rfl
theorem aw_swap : swA (rni [[97], [97]]) [[98]] (rni [[97], [97], [97]]) = [.p [98], .d, .d, .k] := by rfl
theorem aw_mov : movB (sts [[97], [10], [98], [10], [99]]).length 1 1 0 = true := by rfl
theorem aw_mv : mvA [[97], [10], [98], [10], [99]] (stN [[97], [10], [98], [10], [99]] (1 : Int).toNat) (stN [[97], [10], [98], [10], [99]] ((1 : Int).toNat + (1 : Int).toNat)) (mvP [[97], [10], [98], [10], [99]] (1 : Int).toNat (1 : Int).toNat (0 : Int).toNat) = [.p [98], .p [10], .k, .k, .d, .d, .k] := by
  rw [show stN [[97], [10], [98], [10], [99]] (1 : Int).toNat = 2 from rfl, show stN [[97], [10], [98], [10], [99]] ((1 : Int).toNat + (1 : Int).toNat) = 4 from rfl, show mvP [[97], [10], [98], [10], [99]] (1 : Int).toNat (1 : Int).toNat (0 : Int).toNat = 0 from rfl]
  unfold mvA
  rw [show sub [[97], [10], [98], [10], [99]] 2 4 = [[98], [10]] from rfl]
  simp [List.replicate_succ, At.comp]
set_option maxRecDepth 100000 in
set_option maxHeartbeats 4000000 in
theorem awake_any (w0 : World) (hT : UT w0) : Calls Tryd.prog 13 #[] w0 fun r w' => r = .returned (.bool true) ∧ Below w0.heap.size w0 w' := by
  have HU : Hid (∀ W, Below w0.heap.size w0 W → UT W) := hide (fun W hb => hT.call hb)
  have B0 := hide (Below.refl w0.heap.size w0)
  clear hT
  go_enter Tryd.func13, Tryd.ntmps13
  have KI := hide (index_any ⟨#[97, 98, 10, 99, 100]⟩ _ w0 (unhide HU _ (unhide B0)) (by decide) (show Tx ⟨#[97, 98, 10, 99, 100]⟩ [[97], [98], [10], [99], [100]] from tx_ascii [97, 98, 10, 99, 100] (by decide)))
  go_wp2_with fail
  refine Calls.mono (unhide KI) ?_
  rintro r w1 ⟨gi1, vr1, vs1, rfl, hi1, b1⟩
  have HI := hide hi1
  clear hi1 KI
  have B1 := hide ((unhide B0).trans (b1.mono (unhide B0).size))
  clear b1
  have KA := hide (at_ok (unhide HI) 1 9 (by decide) (by decide))
  rw [aw_at] at KA
  go_wp2_with fail
  refine Calls.mono (unhide KA) ?_
  rintro r w2 ⟨rfl, b2⟩
  have HI2 := hide ((unhide HI).call b2)
  clear HI KA
  have B2 := hide ((unhide B1).trans (b2.mono (unhide B1).size))
  clear b2
  have KW := hide (where_ok (unhide HI2) 3 (by decide))
  rw [aw_where] at KW
  go_wp2_with fail
  refine Calls.mono (unhide KW) ?_
  rintro r w3 ⟨rfl, b3⟩
  clear HI2 KW
  have B3 := hide ((unhide B2).trans (b3.mono (unhide B2).size))
  clear b3
  have KI := hide (index_any ⟨#[97, 97, 97]⟩ _ w3 (unhide HU _ (unhide B3)) (by decide) (show Tx ⟨#[97, 97, 97]⟩ [[97], [97], [97]] from tx_ascii [97, 97, 97] (by decide)))
  go_wp2_with fail
  refine Calls.mono (unhide KI) ?_
  rintro r w4 ⟨gi4, vr4, vs4, rfl, hi4, b4⟩
  have HI := hide hi4
  clear hi4 KI
  have B4 := hide ((unhide B3).trans (b4.mono (unhide B3).size))
  clear b4
  have KF := hide (find_ok (unhide HI) ⟨#[97, 97]⟩ (unhide HU _ (unhide B4)) (by decide) (by decide))
  go_wp2_with fail
  refine Calls.mono (unhide KF) ?_
  rintro r w5 h5
  obtain ⟨⟨vf, rfl, hf⟩, b5⟩ := h5.at_ (show Tx ⟨#[97, 97]⟩ [[97], [97]] from tx_ascii [97, 97] (by decide)) (by decide)
  rw [aw_find] at hf
  obtain ⟨af, cf, rfl, _, _⟩ := own_sl hf
  have HF := hide hf
  clear hf h5 HI KF
  have B5 := hide ((unhide B4).trans (b5.mono (unhide B4).size))
  clear b5
  have KI := hide (index_any ⟨#[97, 97, 97]⟩ _ w5 (unhide HU _ (unhide B5)) (by decide) (show Tx ⟨#[97, 97, 97]⟩ [[97], [97], [97]] from tx_ascii [97, 97, 97] (by decide)))
  go_wp2_with fail
  refine Calls.mono (unhide KI) ?_
  rintro r w6 ⟨gi6, vr6, vs6, rfl, hi6, b6⟩
  have HI := hide hi6
  clear hi6 KI
  have HF := hide (own_call (unhide HF) b6)
  have B6 := hide ((unhide B5).trans (b6.mono (unhide B5).size))
  clear b6
  have KS := hide (swap_ok (unhide HI) ⟨#[97, 97]⟩ ⟨#[98]⟩ (unhide HU _ (unhide B6)) (by decide) (by decide) (by decide))
  go_wp2_with fail
  refine Calls.mono (unhide KS) ?_
  rintro r w7 h7
  obtain ⟨⟨v1, l1, rfl, ho1, nf1, at1⟩, b7⟩ := h7.at_ (show Tx ⟨#[97, 97]⟩ [[97], [97]] from tx_ascii [97, 97] (by decide)) (show Tx ⟨#[98]⟩ [[98]] from tx_ascii [98] (by decide)) (by decide)
  rw [aw_swap] at at1
  have ed1 := can_ed (n := 3) (m := 2) nf1 at1 (by rfl) (by rfl) (by decide) (by decide)
  obtain ⟨a1, c1, rfl, he1⟩ := ed_own ho1 ed1 (by decide)
  have HE1 := hide he1
  have HD1 := hide (And.intro ed1 at1)
  obtain ⟨n1, hn1⟩ : ∃ z, l1.length = z := ⟨_, rfl⟩
  have HN1 := hide hn1
  try rw [hn1]
  clear ho1 nf1 at1 ed1 he1 hn1 h7 HI KS
  have HF := hide (own_call (unhide HF) b7)
  have B7 := hide ((unhide B6).trans (b7.mono (unhide B6).size))
  clear b7
  have KI := hide (index_any ⟨#[97, 10, 98, 10, 99]⟩ _ w7 (unhide HU _ (unhide B7)) (by decide) (show Tx ⟨#[97, 10, 98, 10, 99]⟩ [[97], [10], [98], [10], [99]] from tx_ascii [97, 10, 98, 10, 99] (by decide)))
  go_wp2_with fail
  refine Calls.mono (unhide KI) ?_
  rintro r w8 ⟨gi8, vr8, vs8, rfl, hi8, b8⟩
  have HI := hide hi8
  clear hi8 KI
  have HF := hide (own_call (unhide HF) b8)
  have HE1 := hide ((unhide HE1).call b8)
  have B8 := hide ((unhide B7).trans (b8.mono (unhide B7).size))
  clear b8
  have KM := hide (move_ok (unhide HI) (show Tx ⟨#[97, 10, 98, 10, 99]⟩ [[97], [10], [98], [10], [99]] from tx_ascii [97, 10, 98, 10, 99] (by decide)).cps 1 1 0 (by decide) (by decide) (unhide HU _ (unhide B8)) (by decide))
  go_wp2_with fail
  refine Calls.mono (unhide KM) ?_
  rintro r w9 h9
  obtain ⟨⟨v2, l2, rfl, ho2, nf2, at2⟩, b9⟩ := h9.at_ aw_mov
  rw [aw_mv] at at2
  have ed2 := can_ed (n := 5) (m := 5) nf2 at2 (by rfl) (by rfl) (by decide) (by decide)
  obtain ⟨a2, c2, rfl, he2⟩ := ed_own ho2 ed2 (by decide)
  have HE2 := hide he2
  have HD2 := hide (And.intro ed2 at2)
  obtain ⟨n2, hn2⟩ : ∃ z, l2.length = z := ⟨_, rfl⟩
  have HN2 := hide hn2
  try rw [hn2]
  clear ho2 nf2 at2 ed2 he2 hn2 h9 HI KM
  have HF := hide (own_call (unhide HF) b9)
  have HE1 := hide ((unhide HE1).call b9)
  have B9 := hide ((unhide B8).trans (b9.mono (unhide B8).size))
  clear b9
  have bA : Below w9.heap.size w9 (w9.alloc (.cells #[.int .i64 0, .int .i64 1] 3)) := (Below.refl _ _).alloc (Nat.le_refl _) _
  have HNW := RowAt.new w9 3 [.int .i64 0, .int .i64 1]
  have HF := hide (own_call (unhide HF) bA)
  have HE1 := hide ((unhide HE1).call bA)
  have HE2 := hide ((unhide HE2).call bA)
  have BA := hide ((unhide B9).trans (bA.mono (unhide B9).size))
  have KQ := hide (ieq_any w4.heap.size w9.heap.size (.slice af 2 cf) (.slice (some ⟨w9.heap.size, 0, none⟩) 2 2) [0, 1] [0, 1] (w9.alloc (.cells #[.int .i64 0, .int .i64 1] 3)) (unhide HF) (own_row HNW (Nat.le_refl _) (by show 2 ≤ maxLen; unfold maxLen; omega)) (by decide))
  clear bA HNW HF
  go_wp2_with fail
  refine Calls.mono (unhide KQ) ?_
  rintro r wa ⟨rfl, ba⟩
  have HE1 := hide ((unhide HE1).call ba)
  have HE2 := hide ((unhide HE2).call ba)
  have BA2 := hide ((unhide BA).trans (ba.mono (unhide BA).size))
  have KA := hide (applied_any a1 l1 c1 n1 2 ⟨#[97, 97, 97]⟩ [[97], [97], [97]] wa (unhide HU _ (unhide BA2)) (unhide HE1) (unhide HN1) (show Tx ⟨#[97, 97, 97]⟩ [[97], [97], [97]] from tx_ascii [97, 97, 97] (by decide)) (unhide HD1).1)
  clear ba KQ
  go_wp2_with fail
  refine Calls.mono (unhide KA) ?_
  rintro r wb ⟨S1, rfl, hx1, bb⟩
  rw [(unhide HD1).2, At.app_can] at hx1
  have e1 : S1 = ⟨#[98, 97]⟩ := hx1.same (show Tx ⟨#[98, 97]⟩ [[98], [97]] from tx_ascii [98, 97] (by decide))
  subst e1
  have HE2 := hide ((unhide HE2).call bb)
  have BB2 := hide ((unhide BA2).trans (bb.mono (unhide BA2).size))
  have KB := hide (applied_any a2 l2 c2 n2 5 ⟨#[97, 10, 98, 10, 99]⟩ [[97], [10], [98], [10], [99]] wb (unhide HU _ (unhide BB2)) (unhide HE2) (unhide HN2) (show Tx ⟨#[97, 10, 98, 10, 99]⟩ [[97], [10], [98], [10], [99]] from tx_ascii [97, 10, 98, 10, 99] (by decide)) (unhide HD2).1)
  clear bb KA hx1
  go_wp2_with fail
  refine Calls.mono (unhide KB) ?_
  rintro r wc ⟨S2, rfl, hx2, bc⟩
  rw [(unhide HD2).2, At.app_can] at hx2
  have e2 : S2 = ⟨#[98, 10, 97, 10, 99]⟩ := hx2.same (show Tx ⟨#[98, 10, 97, 10, 99]⟩ [[98], [10], [97], [10], [99]] from tx_ascii [98, 10, 97, 10, 99] (by decide))
  subst e2
  have BC := hide ((unhide BB2).trans (bc.mono (unhide BB2).size))
  clear bc KB hx2
  go_wp2_with fail
  go_ret
  exact ⟨by first | rfl | (simp; done), unhide BC⟩
end Go.Proofs.YtdnbhomjfgpcfaaDoor
