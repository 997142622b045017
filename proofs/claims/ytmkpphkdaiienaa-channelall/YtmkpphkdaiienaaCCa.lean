/- A frame comes at an end: came. -/
import Derived.Test.YtmkpphkdaiienaaCMv
namespace Go.Proofs.Ytmkpphkdaiienaa
set_option linter.unusedVariables false
set_option linter.unusedSimpArgs false
open Go.ChangeShapes Go.WideShapes Go.ChangeAt Go.RowKit Go.Joins Go.Deep

theorem run_app_src {P : Program} (w : World) (base : Nat) (t ty e : TypeId) (i : TypeInfo) (z : Value) (size bytes : Nat) (ht : P.underlying t = some (.slice e)) (hi : P.info? e = some i) (hz : i.zero = some z)
    (hsize : i.size = size) (hby : i.bytes = bytes) (hzs : z.cells.size = size) (hsz : 0 < size)
    (v : Value) (n : Nat) (xs : List Value) (hown : w.ownsRow base e size v n xs)
    (ad : Option Addr) (m c : Nat) (news : List Value) (hl : news.length = m * size) (hnone : ad = none → m = 0) (hnews : ∀ b, ad = some b → ∀ j u, news[j]? = some u → w.cell? (b.add j) = some u) (h1 : ∀ u ∈ news, u.oneCell' = true)
    (h63 : n + m ≤ maxLen) (hbytes : (n + m) * bytes ≤ 140737488355328) (hbase : base ≤ w.heap.size) :
    ∃ v' w', (Builtin.append_ #[t, t] ty #[v, .slice ad m c]).run P w = .ok v' w' ∧ w'.ownsRow base e size v' (n + m) (xs ++ news) ∧ Only (fun k => v.ownBlock = some k) w w' ∧ ∀ k, v'.ownBlock = some k → v.ownBlock = some k ∨ w.heap.size ≤ k := by
  cases ad with
  | none =>
    have hm := hnone rfl
    subst hm
    have hn0 : news = [] := List.eq_nil_of_length_eq_zero (by simpa using hl)
    subst hn0
    obtain ⟨b, cap, hv, hle⟩ : ∃ b cap, v = .slice b n cap ∧ n ≤ cap := by
      rcases hown.2 with ⟨rfl, rfl⟩ | ⟨g, cap, cur, rfl, _, _, hle, _⟩
      · exact ⟨none, 0, rfl, Nat.le_refl _⟩
      · exact ⟨_, cap, rfl, hle⟩
    subst hv
    exact ⟨_, w, run_append_none w t ty e i ht hi b n cap c hle, by simpa using hown, Only.refl _ _, fun k hk => .inl hk⟩
  | some b =>
    obtain ⟨v', w', hr, h2, h3, _, h4⟩ := run_append_own_at (P := P) w base t ty e i z size bytes ht hi hz hsize hby hzs hsz v n xs hown b m c news hl (hnews b rfl) h1 h63 hbytes hbase
    exact ⟨v', w', hr, h2, grown_only h3, fun k hk => by
      rcases h4 with e | e
      · rw [e] at hk; exact .inl hk
      · rw [e] at hk; injection hk with hk; exact .inr (by omega)⟩
theorem wp_app_src {o : Oper} {a : Act} {K : Act → World → Prop} {Q : Exit → Act → World → Prop} {w : World} (s x : Operand) (t e : TypeId) (z : Value) (size bytes : Nat) (ht : Try.prog.underlying t = some (.slice e))
    (hin : (Try.prog.info? e).map (fun i => (i.zero, i.size, i.bytes)) = some (some z, size, bytes)) (hzs : z.cells.size = size) (hsz : 0 < size)
    (ho : o.op = .call { callee := .builtin .append, args := #[s, x], argTypes := #[t, t] }) (base : Nat) (v : Value) (n : Nat) (xs : List Value) (hs : a.eval s = v) (hown : w.ownsRow base e size v n xs)
    (ad : Option Addr) (m c : Nat) (news : List Value) (hx : a.eval x = .slice ad m c) (hl : news.length = m * size) (hnone : ad = none → m = 0) (hnews : ∀ b, ad = some b → ∀ j u, news[j]? = some u → w.cell? (b.add j) = some u) (h1 : ∀ u ∈ news, u.oneCell' = true)
    (h63 : n + m ≤ maxLen) (hbytes : (n + m) * bytes ≤ 140737488355328) (hbase : base ≤ w.heap.size)
    (h : ∀ v' w', w'.ownsRow base e size v' (n + m) (xs ++ news) → Only (fun k => v.ownBlock = some k) w w' → (∀ k, v'.ownBlock = some k → v.ownBlock = some k ∨ w.heap.size ≤ k) → K (a.put o.dst v') w') : o.wp Try.prog a w K Q := by
  obtain ⟨i, hi, hz, hsize, hby⟩ := info_parts hin
  obtain ⟨v', w', hr, h2, h3, h4⟩ := run_app_src w base t o.type e i z size bytes ht hi hz hsize hby hzs hsz v n xs hown ad m c news hl hnone hnews h1 h63 hbytes hbase
  unfold Oper.wp execOp
  simp only [ho, resolve, invoke, builtin, Sem.run_bind, Sem.run_pure, Result.andThen_ok, List.map_toArray, List.map_cons, List.map_nil, hs, hx, hr]
  exact h v' w' h2 h3 h4
theorem own_none {w : World} {B s n c : Nat} {e : TypeId} {xs : List Value} (h : w.ownsRow B e s (.slice none n c) n xs) : n = 0 := by
  rcases h.2 with ⟨_, h0⟩ | ⟨g, c, cur, e1, _⟩
  · exact h0
  · injection e1 with e1; cases e1
theorem own_news {w : World} {B s n c : Nat} {e : TypeId} {a : Option Addr} {xs : List Value} (h : w.ownsRow B e s (.slice a n c) n xs) : ∀ b, a = some b → ∀ (j : Nat) (u : Value), xs[j]? = some u → w.cell? (b.add j) = some u := by
  intro b hb j u hu
  rcases h.2 with ⟨e1, _⟩ | ⟨g, c', cur, e1, _, hr, _, _, _, ht⟩
  · injection e1 with e1; rw [hb] at e1; cases e1
  · injection e1 with e1
    rw [hb] at e1
    injection e1 with e1
    subst e1
    have hr' : RowAt w g e cur.toList := hr
    have hj : j < xs.length := (List.getElem?_eq_some_iff.1 hu).1
    rw [add_plain, Nat.zero_add, hr'.cell, ← hu, ← ht, List.getElem?_take_of_lt (by have := h.1; omega)]
def pairs (o : List Er) : List VB := o.map (fun x => (x.v, x.body))
def cameP (P : PS) (i : Nat) (c q a : Int) (b : List Nat) (v vq tv : Value) : PS :=
  { P with vq := upd P.vq i vq, s := upd P.s i (takeS (P.s i) c q a b v), V := upd P.V (2 + i) tv, X := upd P.X (2 + i) (P.X (2 + i) ++ pairs (takeO (P.s i) c q a b v)) }
def CameR (B gp : Nat) (P : PS) (i : Nat) (c q a : Int) (b : List Nat) (w : World) (r : Ending) (w' : World) : Prop :=
  r = .returned (.tuple #[]) ∧ ∃ v vq tv, Pair w' B gp (cameP P i c q a b v vq tv) ∧ Below B w w'
theorem PS.ok_same (P : PS) (h : P.ok = true) : ({ P with ok := true } : PS) = P := by cases P; cases h; rfl
set_option maxRecDepth 100000 in
set_option maxHeartbeats 4000000 in
theorem came0_ok (B gp : Nat) (P : PS) (c q a : Int) (b : List Nat) (vb : Value) (w : World) (h : Pair w B gp P) (hk : (P.s 0).Ok) (hE : EOk (P.s 0)) (hv : Vis w B vb b) (hbl : b.length ≤ 1000000000) (hq1 : q ≤ 9223372036854775807) (hel : (P.s 0).early.length ≤ 99999) (hok : P.ok = true) (he : takeE (P.s 0) c q a b.length = 0) (hX : (P.X 2).length ≤ 100000) (hO : ∀ v, (takeO (P.s 0) c q a b v).length ≤ 100000) :
    Calls Try.prog 34 #[.pointer (some ⟨gp, 0, none⟩), .int .i64 0, frV c q a vb] w fun r w' => CameR B gp P 0 c q a b w r w' := by
  obtain ⟨ab, cb, hvb⟩ := byt_shape hv.1
  subst hvb
  unfold frV
  have b1 : Below w.heap.size w (w.alloc (.cells #[.int .i64 c, .int .i64 q, .int .i64 a, .slice ab b.length cb] 34)) := (Below.refl _ _).alloc (Nat.le_refl _) _
  have HI := hide (h.call b1)
  have HV := hide (hv.call b1)
  have HBX := hide (RowAt.new w 34 [.int .i64 c, .int .i64 q, .int .i64 a, .slice ab b.length cb])
  have HB := hide (b1.mono h.low)
  have HK := hide hk
  have HEO := hide hE
  have HEL := hide hel
  have HOK := hide hok
  have HE := hide he
  have HX := hide hX
  have HO := hide hO
  obtain ⟨gi, hgi⟩ : ∃ z, P.g 0 = z := ⟨_, rfl⟩
  have HGI := hide hgi
  obtain ⟨gb, hgb⟩ : ∃ z, w.heap.size = z := ⟨_, rfl⟩
  have HGB := hide hgb
  clear h hk hE hv hel hok he hX hO b1 hgi hgb
  go_enter Try.func34, Try.ntmps34
  go_wp2_with fail
  refine wp_region_T (S := fun W => W.cell? ⟨gp, 0, none⟩ = some (.pointer (some ⟨gi, 0, none⟩)) ∧ W.cell? ⟨gb, 0, none⟩ = some (.int .i64 c) ∧ W.cell? ⟨gb, 1, none⟩ = some (.int .i64 q) ∧ W.cell? ⟨gb, 2, none⟩ = some (.int .i64 a) ∧ W.cell? ⟨gb, 3, none⟩ = some (.slice ab b.length cb)) (fun i => decide (i < 13)) (by kernel_rfl) (by rw [← unhide HGI, ← unhide HGB]; exact ⟨(unhide HI).row.cell 0, (unhide HBX).cell 0, (unhide HBX).cell 1, (unhide HBX).cell 2, (unhide HBX).cell 3⟩) (fun hHeld => ?_)
  have bd : Below (w.alloc (.cells #[.int .i64 c, .int .i64 q, .int .i64 a, .slice ab b.length cb] 34)).heap.size (w.alloc (.cells #[.int .i64 c, .int .i64 q, .int .i64 a, .slice ab b.length cb] 34)) (w.alloc (.cells #[.int .i64 c, .int .i64 q, .int .i64 a, .slice ab b.length cb] 34)).drew := Below.drew (Below.refl _ _)
  have HI1 := hide ((unhide HI).call bd)
  have HV1 := hide ((unhide HV).call bd)
  have HX1 := hide ((unhide HBX).drew)
  have HB1 := hide ((unhide HB).trans (bd.mono (unhide HI).low))
  rw [unhide HGB] at HX1
  rw [unhide HGB]
  obtain ⟨w1, hw1⟩ : ∃ z, (w.alloc (.cells #[.int .i64 c, .int .i64 q, .int .i64 a, .slice ab b.length cb] 34)).drew = z := ⟨_, rfl⟩
  rw [hw1] at HI1 HV1 HX1 HB1 hHeld ⊢
  clear hw1 bd HI HV HBX HB
  refine wpAnyT_take (i := 0) (oi := { dst := some 9, op := Op.move (Operand.tmp 0), type := 59, pos := "law.go:132", after := #[], guard := none }) (v := .pointer (some ⟨gp, 0, none⟩)) rfl (by kernel_rfl) (by kernel_rfl) (by kernel_rfl) (by kernel_rfl) (fun _ _ _ h => h) (Or.inl ⟨by rfl, ?_⟩) hHeld ?_
  · intro w hSw
    obtain ⟨h0, k0, k1, k2, k3⟩ := hSw
    first
      | rfl
      | (go_simp; done)
  try simp only [Act.put, List.setIfInBounds_toArray, List.set_cons_zero, List.set_cons_succ]
  refine wpAnyT_take (i := 1) (oi := { dst := some 10, op := Op.move (Operand.tmp 1), type := 3, pos := "law.go:132", after := #[], guard := none }) (v := .int .i64 0) rfl (by kernel_rfl) (by kernel_rfl) (by kernel_rfl) (by kernel_rfl) (fun _ _ _ h => h) (Or.inl ⟨by rfl, ?_⟩) hHeld ?_
  · intro w hSw
    obtain ⟨h0, k0, k1, k2, k3⟩ := hSw
    first
      | rfl
      | (go_simp; done)
  try simp only [Act.put, List.setIfInBounds_toArray, List.set_cons_zero, List.set_cons_succ]
  refine wpAnyT_take (i := 2) (oi := { dst := some 11, op := Op.nilCheck (Operand.tmp 9), type := 0, pos := "law.go:132", after := #[{ on := 0, ground := Ground.data }], guard := none }) (v := .pointer (some ⟨gp, 0, none⟩)) rfl (by kernel_rfl) (by kernel_rfl) (by kernel_rfl) (by kernel_rfl) (fun _ _ _ h => h) (Or.inl ⟨by rfl, ?_⟩) hHeld ?_
  · intro w hSw
    obtain ⟨h0, k0, k1, k2, k3⟩ := hSw
    first
      | rfl
      | (go_simp; done)
  try simp only [Act.put, List.setIfInBounds_toArray, List.set_cons_zero, List.set_cons_succ]
  refine wpAnyT_take (i := 3) (oi := { dst := some 12, op := Op.fieldAddr 65 (Operand.tmp 11) 0, type := 0, pos := "law.go:132", after := #[{ on := 2, ground := Ground.data }], guard := none }) (v := .pointer (some ⟨gp, 0, none⟩)) rfl (by kernel_rfl) (by kernel_rfl) (by kernel_rfl) (by kernel_rfl) (fun _ _ _ h => h) (Or.inl ⟨by rfl, ?_⟩) hHeld ?_
  · intro w hSw
    obtain ⟨h0, k0, k1, k2, k3⟩ := hSw
    first
      | rfl
      | (go_simp; done)
  try simp only [Act.put, List.setIfInBounds_toArray, List.set_cons_zero, List.set_cons_succ]
  refine wpAnyT_take (i := 4) (oi := { dst := some 13, op := Op.indexAddr 61 (Operand.tmp 12) (Operand.tmp 10), type := 0, pos := "law.go:132", after := #[{ on := 3, ground := Ground.data }, { on := 1, ground := Ground.data }], guard := none }) (v := .pointer (some ⟨gp, 0, none⟩)) rfl (by kernel_rfl) (by kernel_rfl) (by kernel_rfl) (by kernel_rfl) (fun _ _ _ h => h) (Or.inl ⟨by rfl, ?_⟩) hHeld ?_
  · intro w hSw
    obtain ⟨h0, k0, k1, k2, k3⟩ := hSw
    first
      | rfl
      | (go_simp; done)
  try simp only [Act.put, List.setIfInBounds_toArray, List.set_cons_zero, List.set_cons_succ]
  refine wpAnyT_take (i := 5) (oi := { dst := some 14, op := Op.load 23 (Operand.tmp 13), type := 23, pos := "law.go:132", after := #[{ on := 4, ground := Ground.data }], guard := none }) (v := .pointer (some ⟨gi, 0, none⟩)) rfl (by kernel_rfl) (by kernel_rfl) (by kernel_rfl) (by kernel_rfl) (fun _ _ _ h => h) (Or.inl ⟨by rfl, ?_⟩) hHeld ?_
  · intro w hSw
    obtain ⟨h0, k0, k1, k2, k3⟩ := hSw
    first
      | rfl
      | (go_simp; done)
  try simp only [Act.put, List.setIfInBounds_toArray, List.set_cons_zero, List.set_cons_succ]
  refine wpAnyT_take (i := 6) (oi := { dst := some 15, op := Op.load 34 (Operand.tmp 5), type := 34, pos := "law.go:132", after := #[], guard := none }) (v := .agg #[.int .i64 c, .int .i64 q, .int .i64 a, .slice ab b.length cb]) rfl (by kernel_rfl) (by kernel_rfl) (by kernel_rfl) (by kernel_rfl) (fun _ _ _ h => h) (Or.inl ⟨by rfl, ?_⟩) hHeld ?_
  · intro w hSw
    obtain ⟨h0, k0, k1, k2, k3⟩ := hSw
    first
      | rfl
      | (go_simp; done)
  try simp only [Act.put, List.setIfInBounds_toArray, List.set_cons_zero, List.set_cons_succ]
  refine wpAnyT_one (i := 7) (o := { dst := some 16, op := Op.call { callee := Callee.value (Operand.func 17), args := #[Operand.tmp 14, Operand.tmp 15], argTypes := #[23, 34] }, type := 41, pos := "law.go:132", after := #[{ on := 5, ground := Ground.data }, { on := 6, ground := Ground.data }], guard := none }) (by kernel_rfl) rfl (fun K hK => ?_)
  go_simp
  refine Calls.mono (take_any B gi (P.m 0) (P.vq 0) _ (P.s 0) c q a b w1 (by rw [← unhide HGI]; exact (unhide HI1).ch 0 (by decide)) (unhide HK) (unhide HEO) (unhide HV1) hbl hq1 (unhide HEL)) ?_
  intro r w2 h2
  obtain ⟨l, v, vq, rfl, i2⟩ := h2.shape
  have HI2 := hide ((unhide HI1).turn 0 (by decide) (by rw [unhide HGI]; exact i2.ch) (by rw [unhide HGI]; exact i2.tu))
  have HX2 := hide (((unhide HI1).ch 0 (by decide)).keepRow (unhide HX1) (by decide) (by decide) (by rw [unhide HGI]; exact i2.tu.1))
  have HB2 := hide ((unhide HB1).trans (((unhide HI1).ch 0 (by decide)).low1 (by rw [unhide HGI]; exact i2.tu.1)))
  have HL2 := hide i2.own
  have HBO := hide i2.bod
  obtain ⟨al, cl, hal⟩ := own_one i2.own
  subst hal
  have hS2 := And.intro (show w2.cell? ⟨gp, 0, none⟩ = some (.pointer (some ⟨gi, 0, none⟩)) by rw [← unhide HGI]; exact (unhide HI2).row.cell 0) (And.intro ((unhide HX2).cell 0) (And.intro ((unhide HX2).cell 1) (And.intro ((unhide HX2).cell 2) ((unhide HX2).cell 3))))
  rw [unhide HE]
  obtain ⟨no, hno⟩ : ∃ z, (takeO (P.s 0) c q a b v).length = z := ⟨_, rfl⟩
  have HNO := hide hno
  rw [hno] at HL2 ⊢
  clear h2 i2 HI1 HV1 HX1 HB1 hHeld hno
  go_wp2_with fail
  refine hK.out _ _ (fun _ => hS2) ?_
  clear hK K
  try simp only [Act.put, List.setIfInBounds_toArray, List.set_cons_zero, List.set_cons_succ]
  refine wpAnyT_take (i := 8) (oi := { dst := some 8, op := Op.move (Operand.tmp 16), type := 41, pos := "law.go:132", after := #[{ on := 7, ground := Ground.data }], guard := none }) (v := .tuple #[.slice al no cl, .int .i64 0]) rfl (by kernel_rfl) (by kernel_rfl) (by kernel_rfl) (by kernel_rfl) (fun _ _ _ h => h) (Or.inl ⟨by rfl, ?_⟩) hS2 ?_
  · intro w hSw
    obtain ⟨h0, k0, k1, k2, k3⟩ := hSw
    first
      | rfl
      | (go_simp; done)
  try simp only [Act.put, List.setIfInBounds_toArray, List.set_cons_zero, List.set_cons_succ]
  refine wpAnyT_take (i := 9) (oi := { dst := some 17, op := Op.extract (Operand.tmp 8) 0, type := 40, pos := "law.go:132", after := #[{ on := 8, ground := Ground.data }], guard := none }) (v := .slice al no cl) rfl (by kernel_rfl) (by kernel_rfl) (by kernel_rfl) (by kernel_rfl) (fun _ _ _ h => h) (Or.inl ⟨by rfl, ?_⟩) hS2 ?_
  · intro w hSw
    obtain ⟨h0, k0, k1, k2, k3⟩ := hSw
    first
      | rfl
      | (go_simp; done)
  try simp only [Act.put, List.setIfInBounds_toArray, List.set_cons_zero, List.set_cons_succ]
  refine wpAnyT_take (i := 10) (oi := { dst := some 18, op := Op.extract (Operand.tmp 8) 1, type := 24, pos := "law.go:132", after := #[{ on := 8, ground := Ground.data }, { on := 11, ground := Ground.gcOnly Departure.lateStores }], guard := none }) (v := .int .i64 0) rfl (by kernel_rfl) (by kernel_rfl) (by kernel_rfl) (by kernel_rfl) (fun _ _ _ h => h) (Or.inl ⟨by rfl, ?_⟩) hS2 ?_
  · intro w hSw
    obtain ⟨h0, k0, k1, k2, k3⟩ := hSw
    first
      | rfl
      | (go_simp; done)
  try simp only [Act.put, List.setIfInBounds_toArray, List.set_cons_zero, List.set_cons_succ]
  refine wpAnyT_take (i := 11) (oi := { dst := some 6, op := Op.assign (Operand.tmp 17), type := 40, pos := "law.go:132", after := #[{ on := 9, ground := Ground.data }, { on := 7, ground := Ground.chain }, { on := 0, ground := Ground.phase }, { on := 1, ground := Ground.phase }, { on := 2, ground := Ground.phase }, { on := 3, ground := Ground.phase }, { on := 4, ground := Ground.phase }, { on := 5, ground := Ground.phase }, { on := 6, ground := Ground.phase }, { on := 7, ground := Ground.phase }, { on := 8, ground := Ground.phase }, { on := 9, ground := Ground.phase }, { on := 10, ground := Ground.textOnly Departure.lateStores }], guard := none }) (v := .slice al no cl) rfl (by kernel_rfl) (by kernel_rfl) (by kernel_rfl) (by kernel_rfl) (fun _ _ _ h => h) (Or.inl ⟨by rfl, ?_⟩) hS2 ?_
  · intro w hSw
    obtain ⟨h0, k0, k1, k2, k3⟩ := hSw
    first
      | rfl
      | (go_simp; done)
  try simp only [Act.put, List.setIfInBounds_toArray, List.set_cons_zero, List.set_cons_succ]
  refine wpAnyT_take (i := 12) (oi := { dst := some 7, op := Op.assign (Operand.tmp 18), type := 24, pos := "law.go:132", after := #[{ on := 10, ground := Ground.data }, { on := 11, ground := Ground.chain }, { on := 0, ground := Ground.phase }, { on := 1, ground := Ground.phase }, { on := 2, ground := Ground.phase }, { on := 3, ground := Ground.phase }, { on := 4, ground := Ground.phase }, { on := 5, ground := Ground.phase }, { on := 6, ground := Ground.phase }, { on := 7, ground := Ground.phase }, { on := 8, ground := Ground.phase }, { on := 9, ground := Ground.phase }, { on := 10, ground := Ground.phase }, { on := 11, ground := Ground.phase }], guard := none }) (v := .int .i64 0) rfl (by kernel_rfl) (by kernel_rfl) (by kernel_rfl) (by kernel_rfl) (fun _ _ _ h => h) (Or.inl ⟨by rfl, ?_⟩) hS2 ?_
  · intro w hSw
    obtain ⟨h0, k0, k1, k2, k3⟩ := hSw
    first
      | rfl
      | (go_simp; done)
  try simp only [Act.put, List.setIfInBounds_toArray, List.set_cons_zero, List.set_cons_succ]
  refine wpAnyT_done (by kernel_rfl) ?_ _
  have q8 : w2.cell? ⟨gp, 8, none⟩ = some (.bool true) := by rw [← unhide HOK]; exact (unhide HI2).row.cell 8
  have f8 : w2.frozen? ⟨gp, 8, none⟩ = false := (unhide HI2).row.frozen 8
  go_wp2_with fail
  have o3 : Only (· = gp) w2 (w2.setCell ⟨gp, 8, none⟩ (.bool true)) := Only.set (p := (· = gp)) (Only.refl _ _) gp 8 _ rfl
  have hI3 := (unhide HI2).setOk true
  rw [PS.ok_same { P with vq := upd P.vq 0 vq, s := upd P.s 0 (takeS (P.s 0) c q a b v) } (unhide HOK)] at hI3
  have HI3 := hide hI3
  have HB3 := hide ((unhide HB2).trans (o3.below (unhide HI2).low (fun k hk => by rw [hk]; exact (unhide HI2).gB)))
  have HL3 := hide (own_only (unhide HL2) o3 (avoid_row (unhide HI2).row (by decide) _ _ _ _ _ (unhide HL2)))
  have HBO3 : Hid (∀ x ∈ takeO (P.s 0) c q a b v, Own (w2.setCell ⟨gp, 8, none⟩ (.bool true)) x.v x.body) := hide (fun x hx => own_only (unhide HBO x hx) o3 (avoid_row (unhide HI2).row (by decide) _ _ _ _ _ (unhide HBO x hx)))
  obtain ⟨w3, hw3⟩ : ∃ z, w2.setCell ⟨gp, 8, none⟩ (.bool true) = z := ⟨_, rfl⟩
  rw [hw3] at HI3 HB3 HL3 HBO3 ⊢
  clear hw3 o3 hI3 HI2 HB2 HL2 HBO HX2 q8 f8
  obtain ⟨ut, hut⟩ : ∃ z, P.V 2 = z := ⟨_, rfl⟩
  have HUT := hide hut
  have z8 : w3.cell? ⟨gp, 6, none⟩ = some ut := by rw [← hut]; exact (unhide HI3).row.cell 6
  clear hut
  refine wp_region_T (S := fun W => W.cell? ⟨gp, 6, none⟩ = some ut) (fun i => decide (1 ≤ i ∧ i < 10)) (by kernel_rfl) z8 (fun hHeld => ?_)
  clear z8
  have bd : Below w3.heap.size w3 w3.drew := Below.drew (Below.refl _ _)
  have HI4 := hide ((unhide HI3).call bd)
  have HB4 := hide ((unhide HB3).trans (bd.mono (unhide HI3).low))
  have HL4 := hide (own_call (unhide HL3) bd)
  have HBO4 : Hid (∀ x ∈ takeO (P.s 0) c q a b v, Own w3.drew x.v x.body) := hide (fun x hx => own_call (unhide HBO3 x hx) bd)
  obtain ⟨w4, hw4⟩ : ∃ z, w3.drew = z := ⟨_, rfl⟩
  rw [hw4] at HI4 HB4 HL4 HBO4 hHeld ⊢
  clear hw4 bd HI3 HB3 HL3 HBO3
  refine wpAnyT_pure (i := 0) (oi := { dst := some 30, op := Op.move (Operand.tmp 0), type := 59, pos := "law.go:134", after := #[], guard := none }) (v := .pointer (some ⟨gp, 0, none⟩)) rfl (by kernel_rfl) (by kernel_rfl) (by kernel_rfl) rfl (fun _ _ _ h => h) (Or.inl ⟨by rfl, ?_⟩) ?_
  · intro w hSw
    first
      | rfl
      | (go_simp; done)
  try simp only [Act.put, List.setIfInBounds_toArray, List.set_cons_zero, List.set_cons_succ]
  refine wpAnyT_pure (i := 10) (oi := { dst := some 40, op := Op.nilCheck (Operand.tmp 30), type := 0, pos := "law.go:134", after := #[{ on := 0, ground := Ground.data }], guard := none }) (v := .pointer (some ⟨gp, 0, none⟩)) rfl (by kernel_rfl) (by kernel_rfl) (by kernel_rfl) rfl (fun _ _ _ h => h) (Or.inl ⟨by rfl, ?_⟩) ?_
  · intro w hSw
    first
      | rfl
      | (go_simp; done)
  try simp only [Act.put, List.setIfInBounds_toArray, List.set_cons_zero, List.set_cons_succ]
  refine wpAnyT_pure (i := 11) (oi := { dst := some 41, op := Op.fieldAddr 65 (Operand.tmp 40) 3, type := 0, pos := "law.go:134", after := #[{ on := 10, ground := Ground.data }], guard := none }) (v := .pointer (some ⟨gp, 6, none⟩)) rfl (by kernel_rfl) (by kernel_rfl) (by kernel_rfl) rfl (fun _ _ _ h => h) (Or.inl ⟨by rfl, ?_⟩) ?_
  · intro w hSw
    first
      | rfl
      | (go_simp; done)
  try simp only [Act.put, List.setIfInBounds_toArray, List.set_cons_zero, List.set_cons_succ]
  refine wpAnyT_take (i := 1) (oi := { dst := some 31, op := Op.move (Operand.tmp 1), type := 3, pos := "law.go:134", after := #[], guard := none }) (v := .int .i64 0) rfl (by kernel_rfl) (by kernel_rfl) (by kernel_rfl) (by kernel_rfl) (fun _ _ _ h => h) (Or.inl ⟨by rfl, ?_⟩) hHeld ?_
  · intro w hSw
    obtain h0 := hSw
    first
      | rfl
      | (go_simp; done)
  try simp only [Act.put, List.setIfInBounds_toArray, List.set_cons_zero, List.set_cons_succ]
  refine wpAnyT_take (i := 2) (oi := { dst := some 32, op := Op.move (Operand.tmp 0), type := 59, pos := "law.go:134", after := #[], guard := none }) (v := .pointer (some ⟨gp, 0, none⟩)) rfl (by kernel_rfl) (by kernel_rfl) (by kernel_rfl) (by kernel_rfl) (fun _ _ _ h => h) (Or.inl ⟨by rfl, ?_⟩) hHeld ?_
  · intro w hSw
    obtain h0 := hSw
    first
      | rfl
      | (go_simp; done)
  try simp only [Act.put, List.setIfInBounds_toArray, List.set_cons_zero, List.set_cons_succ]
  refine wpAnyT_take (i := 3) (oi := { dst := some 33, op := Op.move (Operand.tmp 1), type := 3, pos := "law.go:134", after := #[], guard := none }) (v := .int .i64 0) rfl (by kernel_rfl) (by kernel_rfl) (by kernel_rfl) (by kernel_rfl) (fun _ _ _ h => h) (Or.inl ⟨by rfl, ?_⟩) hHeld ?_
  · intro w hSw
    obtain h0 := hSw
    first
      | rfl
      | (go_simp; done)
  try simp only [Act.put, List.setIfInBounds_toArray, List.set_cons_zero, List.set_cons_succ]
  refine wpAnyT_take (i := 4) (oi := { dst := some 34, op := Op.nilCheck (Operand.tmp 32), type := 0, pos := "law.go:134", after := #[{ on := 2, ground := Ground.data }], guard := none }) (v := .pointer (some ⟨gp, 0, none⟩)) rfl (by kernel_rfl) (by kernel_rfl) (by kernel_rfl) (by kernel_rfl) (fun _ _ _ h => h) (Or.inl ⟨by rfl, ?_⟩) hHeld ?_
  · intro w hSw
    obtain h0 := hSw
    first
      | rfl
      | (go_simp; done)
  try simp only [Act.put, List.setIfInBounds_toArray, List.set_cons_zero, List.set_cons_succ]
  refine wpAnyT_take (i := 5) (oi := { dst := some 35, op := Op.fieldAddr 65 (Operand.tmp 34) 3, type := 0, pos := "law.go:134", after := #[{ on := 4, ground := Ground.data }], guard := none }) (v := .pointer (some ⟨gp, 6, none⟩)) rfl (by kernel_rfl) (by kernel_rfl) (by kernel_rfl) (by kernel_rfl) (fun _ _ _ h => h) (Or.inl ⟨by rfl, ?_⟩) hHeld ?_
  · intro w hSw
    obtain h0 := hSw
    first
      | rfl
      | (go_simp; done)
  try simp only [Act.put, List.setIfInBounds_toArray, List.set_cons_zero, List.set_cons_succ]
  refine wpAnyT_take (i := 6) (oi := { dst := some 36, op := Op.indexAddr 63 (Operand.tmp 35) (Operand.tmp 33), type := 0, pos := "law.go:134", after := #[{ on := 5, ground := Ground.data }, { on := 3, ground := Ground.data }], guard := none }) (v := .pointer (some ⟨gp, 6, none⟩)) rfl (by kernel_rfl) (by kernel_rfl) (by kernel_rfl) (by kernel_rfl) (fun _ _ _ h => h) (Or.inl ⟨by rfl, ?_⟩) hHeld ?_
  · intro w hSw
    obtain h0 := hSw
    first
      | rfl
      | (go_simp; done)
  try simp only [Act.put, List.setIfInBounds_toArray, List.set_cons_zero, List.set_cons_succ]
  refine wpAnyT_take (i := 7) (oi := { dst := some 37, op := Op.load 40 (Operand.tmp 36), type := 40, pos := "law.go:134", after := #[{ on := 6, ground := Ground.data }], guard := none }) (v := ut) rfl (by kernel_rfl) (by kernel_rfl) (by kernel_rfl) (by kernel_rfl) (fun _ _ _ h => h) (Or.inl ⟨by rfl, ?_⟩) hHeld ?_
  · intro w hSw
    obtain h0 := hSw
    first
      | rfl
      | (go_simp; done)
  try simp only [Act.put, List.setIfInBounds_toArray, List.set_cons_zero, List.set_cons_succ]
  refine wpAnyT_take (i := 8) (oi := { dst := some 38, op := Op.move (Operand.tmp 6), type := 40, pos := "law.go:134", after := #[], guard := none }) (v := .slice al no cl) rfl (by kernel_rfl) (by kernel_rfl) (by kernel_rfl) (by kernel_rfl) (fun _ _ _ h => h) (Or.inl ⟨by rfl, ?_⟩) hHeld ?_
  · intro w hSw
    obtain h0 := hSw
    first
      | rfl
      | (go_simp; done)
  try simp only [Act.put, List.setIfInBounds_toArray, List.set_cons_zero, List.set_cons_succ]
  refine wpAnyT_one (i := 9) (o := { dst := some 39, op := Op.call { callee := Callee.builtin Builtin.append, args := #[Operand.tmp 37, Operand.tmp 38], argTypes := #[40, 40] }, type := 40, pos := "law.go:134", after := #[{ on := 7, ground := Ground.data }, { on := 8, ground := Ground.data }], guard := none }) (by kernel_rfl) rfl (fun K hK => ?_)
  refine wp_app_src (Operand.tmp 37) (Operand.tmp 38) 40 32 _ 1 24 Try.underlying40 infoSl (by simp [Value.cells]) (by decide) rfl B ut (P.X 2).length ((P.X 2).map Prod.fst) rfl (by rw [← unhide HUT]; exact (unhide HI4).rows 2 (by decide)) al no cl _ rfl (unhide HL4).1 (fun e => by have := unhide HL4; rw [e] at this; exact own_none this) (own_news (unhide HL4)) (fun u hu => ?_) (by have := unhide HX; have := unhide HO v; have := unhide HNO; unfold maxLen; omega) (by have := unhide HX; have := unhide HO v; have := unhide HNO; omega) (unhide HI4).low (fun tv w5 hv5 ho5 hk5 => ?_)
  · obtain ⟨x, hx, rfl⟩ := List.mem_map.1 hu
    exact (unhide HBO4 x hx).one
  obtain ⟨at5, ct5, htv⟩ := own_one hv5
  subst htv
  have ho5b : Only (fun k => (P.V 2).ownBlock = some k) w4 w5 := by rw [unhide HUT]; exact ho5
  have HI5 := hide ((unhide HI4).setV 2 (by decide) (x := P.X 2 ++ pairs (takeO (P.s 0) c q a b v)) ho5b (by rw [List.length_append, List.map_append, show (pairs (takeO (P.s 0) c q a b v)).length = no by rw [← unhide HNO]; exact List.length_map _, show (pairs (takeO (P.s 0) c q a b v)).map Prod.fst = (takeO (P.s 0) c q a b v).map Er.v by unfold pairs; rw [List.map_map]; rfl]; exact hv5) (by rw [unhide HUT]; exact hk5) (fun y hy => ?_))
  rotate_left
  · rcases List.mem_append.1 hy with hy | hy
    · exact ((unhide HI4).vb 2 (by decide) y hy).keep ho5b (fun k hk => (((unhide HI4).rows 2 (by decide)).lt k hk).1) (avoid_own ((unhide HI4).rows 2 (by decide)) (by decide))
    · obtain ⟨x, hx, rfl⟩ := List.mem_map.1 hy
      have : Own w5 x.v x.body := own_only (unhide HBO4 x hx) ho5 (avoid_own (show w4.ownsRow B 32 1 ut _ _ by rw [← unhide HUT]; exact (unhide HI4).rows 2 (by decide)) (by decide) _ _ _ _ _ (unhide HBO4 x hx))
      exact ⟨Own.byt this, .inr (.inr this)⟩
  have HB5 := hide ((unhide HB4).trans (ho5b.below (unhide HI4).low (fun k hk => (((unhide HI4).rows 2 (by decide)).lt k hk).1)))
  have hr5 : RowAt w5 gp 65 _ := (unhide HI4).row.only ho5b (fun e => tag_ne ((unhide HI4).rows 2 (by decide)) (unhide HI4).row (by decide) e)
  have hS5 : w5.cell? ⟨gp, 6, none⟩ = some ut := by rw [← unhide HUT]; exact hr5.cell 6
  have HF5 : Hid (w5.frozen? ⟨gp, 6, none⟩ = false) := hide (hr5.frozen 6)
  have HGBP := hide (unhide HI4).gB
  have HSZ5 := hide (Nat.le_trans (unhide HI4).low ho5.size)
  clear hv5 ho5 ho5b hk5 HI4 HB4 HL4 HBO4 hr5 hHeld
  refine hK.out _ _ (fun _ => hS5) ?_
  clear hK K
  try simp only [Act.put, List.setIfInBounds_toArray, List.set_cons_zero, List.set_cons_succ]
  refine wpAnyT_pure (i := 12) (oi := { dst := some 42, op := Op.indexAddr 63 (Operand.tmp 41) (Operand.tmp 31), type := 0, pos := "law.go:134", after := #[{ on := 11, ground := Ground.data }, { on := 1, ground := Ground.data }, { on := 0, ground := Ground.phase }, { on := 1, ground := Ground.phase }, { on := 2, ground := Ground.phase }, { on := 3, ground := Ground.phase }, { on := 4, ground := Ground.phase }, { on := 5, ground := Ground.phase }, { on := 6, ground := Ground.phase }, { on := 7, ground := Ground.phase }, { on := 8, ground := Ground.phase }, { on := 9, ground := Ground.phase }], guard := none }) (v := .pointer (some ⟨gp, 6, none⟩)) rfl (by kernel_rfl) (by kernel_rfl) (by kernel_rfl) rfl (fun _ _ _ h => h) (Or.inl ⟨by rfl, ?_⟩) ?_
  · intro w hSw
    first
      | rfl
      | (go_simp; done)
  try simp only [Act.put, List.setIfInBounds_toArray, List.set_cons_zero, List.set_cons_succ]
  have f5 := unhide HF5
  refine wpAnyT_one (i := 13) (o := { dst := none, op := Op.store 40 (Operand.tmp 42) (Operand.tmp 39), type := 0, pos := "law.go:134", after := #[{ on := 12, ground := Ground.data }, { on := 9, ground := Ground.data }, { on := 9, ground := Ground.chain }, { on := 0, ground := Ground.phase }, { on := 1, ground := Ground.phase }, { on := 2, ground := Ground.phase }, { on := 3, ground := Ground.phase }, { on := 4, ground := Ground.phase }, { on := 5, ground := Ground.phase }, { on := 6, ground := Ground.phase }, { on := 7, ground := Ground.phase }, { on := 8, ground := Ground.phase }, { on := 9, ground := Ground.phase }], guard := none }) (by kernel_rfl) rfl (fun K hK => ?_)
  go_simp
  refine hK.out _ _ (fun h => by cases h) ?_
  clear hK K
  try simp only [Act.put, List.setIfInBounds_toArray, List.set_cons_zero, List.set_cons_succ]
  refine wpAnyT_done (by kernel_rfl) ?_ _
  go_wp2_with fail
  go_end0
  refine ⟨rfl, v, vq, .slice at5 ((P.X 2).length + no) ct5, unhide HI5, (unhide HB5).trans ?_⟩
  have o6 : Only (· = gp) w5 (w5.setCell ⟨gp, 6, none⟩ (.slice at5 ((P.X 2).length + no) ct5)) := Only.set (p := (· = gp)) (Only.refl _ _) gp 6 _ rfl
  exact o6.below (unhide HSZ5) (fun k hk => by rw [hk]; exact unhide HGBP)
set_option maxRecDepth 100000 in
set_option maxHeartbeats 4000000 in
theorem came1_ok (B gp : Nat) (P : PS) (c q a : Int) (b : List Nat) (vb : Value) (w : World) (h : Pair w B gp P) (hk : (P.s 1).Ok) (hE : EOk (P.s 1)) (hv : Vis w B vb b) (hbl : b.length ≤ 1000000000) (hq1 : q ≤ 9223372036854775807) (hel : (P.s 1).early.length ≤ 99999) (hok : P.ok = true) (he : takeE (P.s 1) c q a b.length = 0) (hX : (P.X 3).length ≤ 100000) (hO : ∀ v, (takeO (P.s 1) c q a b v).length ≤ 100000) :
    Calls Try.prog 34 #[.pointer (some ⟨gp, 0, none⟩), .int .i64 1, frV c q a vb] w fun r w' => CameR B gp P 1 c q a b w r w' := by
  obtain ⟨ab, cb, hvb⟩ := byt_shape hv.1
  subst hvb
  unfold frV
  have b1 : Below w.heap.size w (w.alloc (.cells #[.int .i64 c, .int .i64 q, .int .i64 a, .slice ab b.length cb] 34)) := (Below.refl _ _).alloc (Nat.le_refl _) _
  have HI := hide (h.call b1)
  have HV := hide (hv.call b1)
  have HBX := hide (RowAt.new w 34 [.int .i64 c, .int .i64 q, .int .i64 a, .slice ab b.length cb])
  have HB := hide (b1.mono h.low)
  have HK := hide hk
  have HEO := hide hE
  have HEL := hide hel
  have HOK := hide hok
  have HE := hide he
  have HX := hide hX
  have HO := hide hO
  obtain ⟨gi, hgi⟩ : ∃ z, P.g 1 = z := ⟨_, rfl⟩
  have HGI := hide hgi
  obtain ⟨gb, hgb⟩ : ∃ z, w.heap.size = z := ⟨_, rfl⟩
  have HGB := hide hgb
  clear h hk hE hv hel hok he hX hO b1 hgi hgb
  go_enter Try.func34, Try.ntmps34
  go_wp2_with fail
  refine wp_region_T (S := fun W => W.cell? ⟨gp, 1, none⟩ = some (.pointer (some ⟨gi, 0, none⟩)) ∧ W.cell? ⟨gb, 0, none⟩ = some (.int .i64 c) ∧ W.cell? ⟨gb, 1, none⟩ = some (.int .i64 q) ∧ W.cell? ⟨gb, 2, none⟩ = some (.int .i64 a) ∧ W.cell? ⟨gb, 3, none⟩ = some (.slice ab b.length cb)) (fun i => decide (i < 13)) (by kernel_rfl) (by rw [← unhide HGI, ← unhide HGB]; exact ⟨(unhide HI).row.cell 1, (unhide HBX).cell 0, (unhide HBX).cell 1, (unhide HBX).cell 2, (unhide HBX).cell 3⟩) (fun hHeld => ?_)
  have bd : Below (w.alloc (.cells #[.int .i64 c, .int .i64 q, .int .i64 a, .slice ab b.length cb] 34)).heap.size (w.alloc (.cells #[.int .i64 c, .int .i64 q, .int .i64 a, .slice ab b.length cb] 34)) (w.alloc (.cells #[.int .i64 c, .int .i64 q, .int .i64 a, .slice ab b.length cb] 34)).drew := Below.drew (Below.refl _ _)
  have HI1 := hide ((unhide HI).call bd)
  have HV1 := hide ((unhide HV).call bd)
  have HX1 := hide ((unhide HBX).drew)
  have HB1 := hide ((unhide HB).trans (bd.mono (unhide HI).low))
  rw [unhide HGB] at HX1
  rw [unhide HGB]
  obtain ⟨w1, hw1⟩ : ∃ z, (w.alloc (.cells #[.int .i64 c, .int .i64 q, .int .i64 a, .slice ab b.length cb] 34)).drew = z := ⟨_, rfl⟩
  rw [hw1] at HI1 HV1 HX1 HB1 hHeld ⊢
  clear hw1 bd HI HV HBX HB
  refine wpAnyT_take (i := 0) (oi := { dst := some 9, op := Op.move (Operand.tmp 0), type := 59, pos := "law.go:132", after := #[], guard := none }) (v := .pointer (some ⟨gp, 0, none⟩)) rfl (by kernel_rfl) (by kernel_rfl) (by kernel_rfl) (by kernel_rfl) (fun _ _ _ h => h) (Or.inl ⟨by rfl, ?_⟩) hHeld ?_
  · intro w hSw
    obtain ⟨h0, k0, k1, k2, k3⟩ := hSw
    first
      | rfl
      | (go_simp; done)
  try simp only [Act.put, List.setIfInBounds_toArray, List.set_cons_zero, List.set_cons_succ]
  refine wpAnyT_take (i := 1) (oi := { dst := some 10, op := Op.move (Operand.tmp 1), type := 3, pos := "law.go:132", after := #[], guard := none }) (v := .int .i64 1) rfl (by kernel_rfl) (by kernel_rfl) (by kernel_rfl) (by kernel_rfl) (fun _ _ _ h => h) (Or.inl ⟨by rfl, ?_⟩) hHeld ?_
  · intro w hSw
    obtain ⟨h0, k0, k1, k2, k3⟩ := hSw
    first
      | rfl
      | (go_simp; done)
  try simp only [Act.put, List.setIfInBounds_toArray, List.set_cons_zero, List.set_cons_succ]
  refine wpAnyT_take (i := 2) (oi := { dst := some 11, op := Op.nilCheck (Operand.tmp 9), type := 0, pos := "law.go:132", after := #[{ on := 0, ground := Ground.data }], guard := none }) (v := .pointer (some ⟨gp, 0, none⟩)) rfl (by kernel_rfl) (by kernel_rfl) (by kernel_rfl) (by kernel_rfl) (fun _ _ _ h => h) (Or.inl ⟨by rfl, ?_⟩) hHeld ?_
  · intro w hSw
    obtain ⟨h0, k0, k1, k2, k3⟩ := hSw
    first
      | rfl
      | (go_simp; done)
  try simp only [Act.put, List.setIfInBounds_toArray, List.set_cons_zero, List.set_cons_succ]
  refine wpAnyT_take (i := 3) (oi := { dst := some 12, op := Op.fieldAddr 65 (Operand.tmp 11) 0, type := 0, pos := "law.go:132", after := #[{ on := 2, ground := Ground.data }], guard := none }) (v := .pointer (some ⟨gp, 0, none⟩)) rfl (by kernel_rfl) (by kernel_rfl) (by kernel_rfl) (by kernel_rfl) (fun _ _ _ h => h) (Or.inl ⟨by rfl, ?_⟩) hHeld ?_
  · intro w hSw
    obtain ⟨h0, k0, k1, k2, k3⟩ := hSw
    first
      | rfl
      | (go_simp; done)
  try simp only [Act.put, List.setIfInBounds_toArray, List.set_cons_zero, List.set_cons_succ]
  refine wpAnyT_take (i := 4) (oi := { dst := some 13, op := Op.indexAddr 61 (Operand.tmp 12) (Operand.tmp 10), type := 0, pos := "law.go:132", after := #[{ on := 3, ground := Ground.data }, { on := 1, ground := Ground.data }], guard := none }) (v := .pointer (some ⟨gp, 1, none⟩)) rfl (by kernel_rfl) (by kernel_rfl) (by kernel_rfl) (by kernel_rfl) (fun _ _ _ h => h) (Or.inl ⟨by rfl, ?_⟩) hHeld ?_
  · intro w hSw
    obtain ⟨h0, k0, k1, k2, k3⟩ := hSw
    first
      | rfl
      | (go_simp; done)
  try simp only [Act.put, List.setIfInBounds_toArray, List.set_cons_zero, List.set_cons_succ]
  refine wpAnyT_take (i := 5) (oi := { dst := some 14, op := Op.load 23 (Operand.tmp 13), type := 23, pos := "law.go:132", after := #[{ on := 4, ground := Ground.data }], guard := none }) (v := .pointer (some ⟨gi, 0, none⟩)) rfl (by kernel_rfl) (by kernel_rfl) (by kernel_rfl) (by kernel_rfl) (fun _ _ _ h => h) (Or.inl ⟨by rfl, ?_⟩) hHeld ?_
  · intro w hSw
    obtain ⟨h0, k0, k1, k2, k3⟩ := hSw
    first
      | rfl
      | (go_simp; done)
  try simp only [Act.put, List.setIfInBounds_toArray, List.set_cons_zero, List.set_cons_succ]
  refine wpAnyT_take (i := 6) (oi := { dst := some 15, op := Op.load 34 (Operand.tmp 5), type := 34, pos := "law.go:132", after := #[], guard := none }) (v := .agg #[.int .i64 c, .int .i64 q, .int .i64 a, .slice ab b.length cb]) rfl (by kernel_rfl) (by kernel_rfl) (by kernel_rfl) (by kernel_rfl) (fun _ _ _ h => h) (Or.inl ⟨by rfl, ?_⟩) hHeld ?_
  · intro w hSw
    obtain ⟨h0, k0, k1, k2, k3⟩ := hSw
    first
      | rfl
      | (go_simp; done)
  try simp only [Act.put, List.setIfInBounds_toArray, List.set_cons_zero, List.set_cons_succ]
  refine wpAnyT_one (i := 7) (o := { dst := some 16, op := Op.call { callee := Callee.value (Operand.func 17), args := #[Operand.tmp 14, Operand.tmp 15], argTypes := #[23, 34] }, type := 41, pos := "law.go:132", after := #[{ on := 5, ground := Ground.data }, { on := 6, ground := Ground.data }], guard := none }) (by kernel_rfl) rfl (fun K hK => ?_)
  go_simp
  refine Calls.mono (take_any B gi (P.m 1) (P.vq 1) _ (P.s 1) c q a b w1 (by rw [← unhide HGI]; exact (unhide HI1).ch 1 (by decide)) (unhide HK) (unhide HEO) (unhide HV1) hbl hq1 (unhide HEL)) ?_
  intro r w2 h2
  obtain ⟨l, v, vq, rfl, i2⟩ := h2.shape
  have HI2 := hide ((unhide HI1).turn 1 (by decide) (by rw [unhide HGI]; exact i2.ch) (by rw [unhide HGI]; exact i2.tu))
  have HX2 := hide (((unhide HI1).ch 1 (by decide)).keepRow (unhide HX1) (by decide) (by decide) (by rw [unhide HGI]; exact i2.tu.1))
  have HB2 := hide ((unhide HB1).trans (((unhide HI1).ch 1 (by decide)).low1 (by rw [unhide HGI]; exact i2.tu.1)))
  have HL2 := hide i2.own
  have HBO := hide i2.bod
  obtain ⟨al, cl, hal⟩ := own_one i2.own
  subst hal
  have hS2 := And.intro (show w2.cell? ⟨gp, 1, none⟩ = some (.pointer (some ⟨gi, 0, none⟩)) by rw [← unhide HGI]; exact (unhide HI2).row.cell 1) (And.intro ((unhide HX2).cell 0) (And.intro ((unhide HX2).cell 1) (And.intro ((unhide HX2).cell 2) ((unhide HX2).cell 3))))
  rw [unhide HE]
  obtain ⟨no, hno⟩ : ∃ z, (takeO (P.s 1) c q a b v).length = z := ⟨_, rfl⟩
  have HNO := hide hno
  rw [hno] at HL2 ⊢
  clear h2 i2 HI1 HV1 HX1 HB1 hHeld hno
  go_wp2_with fail
  refine hK.out _ _ (fun _ => hS2) ?_
  clear hK K
  try simp only [Act.put, List.setIfInBounds_toArray, List.set_cons_zero, List.set_cons_succ]
  refine wpAnyT_take (i := 8) (oi := { dst := some 8, op := Op.move (Operand.tmp 16), type := 41, pos := "law.go:132", after := #[{ on := 7, ground := Ground.data }], guard := none }) (v := .tuple #[.slice al no cl, .int .i64 0]) rfl (by kernel_rfl) (by kernel_rfl) (by kernel_rfl) (by kernel_rfl) (fun _ _ _ h => h) (Or.inl ⟨by rfl, ?_⟩) hS2 ?_
  · intro w hSw
    obtain ⟨h0, k0, k1, k2, k3⟩ := hSw
    first
      | rfl
      | (go_simp; done)
  try simp only [Act.put, List.setIfInBounds_toArray, List.set_cons_zero, List.set_cons_succ]
  refine wpAnyT_take (i := 9) (oi := { dst := some 17, op := Op.extract (Operand.tmp 8) 0, type := 40, pos := "law.go:132", after := #[{ on := 8, ground := Ground.data }], guard := none }) (v := .slice al no cl) rfl (by kernel_rfl) (by kernel_rfl) (by kernel_rfl) (by kernel_rfl) (fun _ _ _ h => h) (Or.inl ⟨by rfl, ?_⟩) hS2 ?_
  · intro w hSw
    obtain ⟨h0, k0, k1, k2, k3⟩ := hSw
    first
      | rfl
      | (go_simp; done)
  try simp only [Act.put, List.setIfInBounds_toArray, List.set_cons_zero, List.set_cons_succ]
  refine wpAnyT_take (i := 10) (oi := { dst := some 18, op := Op.extract (Operand.tmp 8) 1, type := 24, pos := "law.go:132", after := #[{ on := 8, ground := Ground.data }, { on := 11, ground := Ground.gcOnly Departure.lateStores }], guard := none }) (v := .int .i64 0) rfl (by kernel_rfl) (by kernel_rfl) (by kernel_rfl) (by kernel_rfl) (fun _ _ _ h => h) (Or.inl ⟨by rfl, ?_⟩) hS2 ?_
  · intro w hSw
    obtain ⟨h0, k0, k1, k2, k3⟩ := hSw
    first
      | rfl
      | (go_simp; done)
  try simp only [Act.put, List.setIfInBounds_toArray, List.set_cons_zero, List.set_cons_succ]
  refine wpAnyT_take (i := 11) (oi := { dst := some 6, op := Op.assign (Operand.tmp 17), type := 40, pos := "law.go:132", after := #[{ on := 9, ground := Ground.data }, { on := 7, ground := Ground.chain }, { on := 0, ground := Ground.phase }, { on := 1, ground := Ground.phase }, { on := 2, ground := Ground.phase }, { on := 3, ground := Ground.phase }, { on := 4, ground := Ground.phase }, { on := 5, ground := Ground.phase }, { on := 6, ground := Ground.phase }, { on := 7, ground := Ground.phase }, { on := 8, ground := Ground.phase }, { on := 9, ground := Ground.phase }, { on := 10, ground := Ground.textOnly Departure.lateStores }], guard := none }) (v := .slice al no cl) rfl (by kernel_rfl) (by kernel_rfl) (by kernel_rfl) (by kernel_rfl) (fun _ _ _ h => h) (Or.inl ⟨by rfl, ?_⟩) hS2 ?_
  · intro w hSw
    obtain ⟨h0, k0, k1, k2, k3⟩ := hSw
    first
      | rfl
      | (go_simp; done)
  try simp only [Act.put, List.setIfInBounds_toArray, List.set_cons_zero, List.set_cons_succ]
  refine wpAnyT_take (i := 12) (oi := { dst := some 7, op := Op.assign (Operand.tmp 18), type := 24, pos := "law.go:132", after := #[{ on := 10, ground := Ground.data }, { on := 11, ground := Ground.chain }, { on := 0, ground := Ground.phase }, { on := 1, ground := Ground.phase }, { on := 2, ground := Ground.phase }, { on := 3, ground := Ground.phase }, { on := 4, ground := Ground.phase }, { on := 5, ground := Ground.phase }, { on := 6, ground := Ground.phase }, { on := 7, ground := Ground.phase }, { on := 8, ground := Ground.phase }, { on := 9, ground := Ground.phase }, { on := 10, ground := Ground.phase }, { on := 11, ground := Ground.phase }], guard := none }) (v := .int .i64 0) rfl (by kernel_rfl) (by kernel_rfl) (by kernel_rfl) (by kernel_rfl) (fun _ _ _ h => h) (Or.inl ⟨by rfl, ?_⟩) hS2 ?_
  · intro w hSw
    obtain ⟨h0, k0, k1, k2, k3⟩ := hSw
    first
      | rfl
      | (go_simp; done)
  try simp only [Act.put, List.setIfInBounds_toArray, List.set_cons_zero, List.set_cons_succ]
  refine wpAnyT_done (by kernel_rfl) ?_ _
  have q8 : w2.cell? ⟨gp, 8, none⟩ = some (.bool true) := by rw [← unhide HOK]; exact (unhide HI2).row.cell 8
  have f8 : w2.frozen? ⟨gp, 8, none⟩ = false := (unhide HI2).row.frozen 8
  go_wp2_with fail
  have o3 : Only (· = gp) w2 (w2.setCell ⟨gp, 8, none⟩ (.bool true)) := Only.set (p := (· = gp)) (Only.refl _ _) gp 8 _ rfl
  have hI3 := (unhide HI2).setOk true
  rw [PS.ok_same { P with vq := upd P.vq 1 vq, s := upd P.s 1 (takeS (P.s 1) c q a b v) } (unhide HOK)] at hI3
  have HI3 := hide hI3
  have HB3 := hide ((unhide HB2).trans (o3.below (unhide HI2).low (fun k hk => by rw [hk]; exact (unhide HI2).gB)))
  have HL3 := hide (own_only (unhide HL2) o3 (avoid_row (unhide HI2).row (by decide) _ _ _ _ _ (unhide HL2)))
  have HBO3 : Hid (∀ x ∈ takeO (P.s 1) c q a b v, Own (w2.setCell ⟨gp, 8, none⟩ (.bool true)) x.v x.body) := hide (fun x hx => own_only (unhide HBO x hx) o3 (avoid_row (unhide HI2).row (by decide) _ _ _ _ _ (unhide HBO x hx)))
  obtain ⟨w3, hw3⟩ : ∃ z, w2.setCell ⟨gp, 8, none⟩ (.bool true) = z := ⟨_, rfl⟩
  rw [hw3] at HI3 HB3 HL3 HBO3 ⊢
  clear hw3 o3 hI3 HI2 HB2 HL2 HBO HX2 q8 f8
  obtain ⟨ut, hut⟩ : ∃ z, P.V 3 = z := ⟨_, rfl⟩
  have HUT := hide hut
  have z8 : w3.cell? ⟨gp, 7, none⟩ = some ut := by rw [← hut]; exact (unhide HI3).row.cell 7
  clear hut
  refine wp_region_T (S := fun W => W.cell? ⟨gp, 7, none⟩ = some ut) (fun i => decide (1 ≤ i ∧ i < 10)) (by kernel_rfl) z8 (fun hHeld => ?_)
  clear z8
  have bd : Below w3.heap.size w3 w3.drew := Below.drew (Below.refl _ _)
  have HI4 := hide ((unhide HI3).call bd)
  have HB4 := hide ((unhide HB3).trans (bd.mono (unhide HI3).low))
  have HL4 := hide (own_call (unhide HL3) bd)
  have HBO4 : Hid (∀ x ∈ takeO (P.s 1) c q a b v, Own w3.drew x.v x.body) := hide (fun x hx => own_call (unhide HBO3 x hx) bd)
  obtain ⟨w4, hw4⟩ : ∃ z, w3.drew = z := ⟨_, rfl⟩
  rw [hw4] at HI4 HB4 HL4 HBO4 hHeld ⊢
  clear hw4 bd HI3 HB3 HL3 HBO3
  refine wpAnyT_pure (i := 0) (oi := { dst := some 30, op := Op.move (Operand.tmp 0), type := 59, pos := "law.go:134", after := #[], guard := none }) (v := .pointer (some ⟨gp, 0, none⟩)) rfl (by kernel_rfl) (by kernel_rfl) (by kernel_rfl) rfl (fun _ _ _ h => h) (Or.inl ⟨by rfl, ?_⟩) ?_
  · intro w hSw
    first
      | rfl
      | (go_simp; done)
  try simp only [Act.put, List.setIfInBounds_toArray, List.set_cons_zero, List.set_cons_succ]
  refine wpAnyT_pure (i := 10) (oi := { dst := some 40, op := Op.nilCheck (Operand.tmp 30), type := 0, pos := "law.go:134", after := #[{ on := 0, ground := Ground.data }], guard := none }) (v := .pointer (some ⟨gp, 0, none⟩)) rfl (by kernel_rfl) (by kernel_rfl) (by kernel_rfl) rfl (fun _ _ _ h => h) (Or.inl ⟨by rfl, ?_⟩) ?_
  · intro w hSw
    first
      | rfl
      | (go_simp; done)
  try simp only [Act.put, List.setIfInBounds_toArray, List.set_cons_zero, List.set_cons_succ]
  refine wpAnyT_pure (i := 11) (oi := { dst := some 41, op := Op.fieldAddr 65 (Operand.tmp 40) 3, type := 0, pos := "law.go:134", after := #[{ on := 10, ground := Ground.data }], guard := none }) (v := .pointer (some ⟨gp, 6, none⟩)) rfl (by kernel_rfl) (by kernel_rfl) (by kernel_rfl) rfl (fun _ _ _ h => h) (Or.inl ⟨by rfl, ?_⟩) ?_
  · intro w hSw
    first
      | rfl
      | (go_simp; done)
  try simp only [Act.put, List.setIfInBounds_toArray, List.set_cons_zero, List.set_cons_succ]
  refine wpAnyT_take (i := 1) (oi := { dst := some 31, op := Op.move (Operand.tmp 1), type := 3, pos := "law.go:134", after := #[], guard := none }) (v := .int .i64 1) rfl (by kernel_rfl) (by kernel_rfl) (by kernel_rfl) (by kernel_rfl) (fun _ _ _ h => h) (Or.inl ⟨by rfl, ?_⟩) hHeld ?_
  · intro w hSw
    obtain h0 := hSw
    first
      | rfl
      | (go_simp; done)
  try simp only [Act.put, List.setIfInBounds_toArray, List.set_cons_zero, List.set_cons_succ]
  refine wpAnyT_take (i := 2) (oi := { dst := some 32, op := Op.move (Operand.tmp 0), type := 59, pos := "law.go:134", after := #[], guard := none }) (v := .pointer (some ⟨gp, 0, none⟩)) rfl (by kernel_rfl) (by kernel_rfl) (by kernel_rfl) (by kernel_rfl) (fun _ _ _ h => h) (Or.inl ⟨by rfl, ?_⟩) hHeld ?_
  · intro w hSw
    obtain h0 := hSw
    first
      | rfl
      | (go_simp; done)
  try simp only [Act.put, List.setIfInBounds_toArray, List.set_cons_zero, List.set_cons_succ]
  refine wpAnyT_take (i := 3) (oi := { dst := some 33, op := Op.move (Operand.tmp 1), type := 3, pos := "law.go:134", after := #[], guard := none }) (v := .int .i64 1) rfl (by kernel_rfl) (by kernel_rfl) (by kernel_rfl) (by kernel_rfl) (fun _ _ _ h => h) (Or.inl ⟨by rfl, ?_⟩) hHeld ?_
  · intro w hSw
    obtain h0 := hSw
    first
      | rfl
      | (go_simp; done)
  try simp only [Act.put, List.setIfInBounds_toArray, List.set_cons_zero, List.set_cons_succ]
  refine wpAnyT_take (i := 4) (oi := { dst := some 34, op := Op.nilCheck (Operand.tmp 32), type := 0, pos := "law.go:134", after := #[{ on := 2, ground := Ground.data }], guard := none }) (v := .pointer (some ⟨gp, 0, none⟩)) rfl (by kernel_rfl) (by kernel_rfl) (by kernel_rfl) (by kernel_rfl) (fun _ _ _ h => h) (Or.inl ⟨by rfl, ?_⟩) hHeld ?_
  · intro w hSw
    obtain h0 := hSw
    first
      | rfl
      | (go_simp; done)
  try simp only [Act.put, List.setIfInBounds_toArray, List.set_cons_zero, List.set_cons_succ]
  refine wpAnyT_take (i := 5) (oi := { dst := some 35, op := Op.fieldAddr 65 (Operand.tmp 34) 3, type := 0, pos := "law.go:134", after := #[{ on := 4, ground := Ground.data }], guard := none }) (v := .pointer (some ⟨gp, 6, none⟩)) rfl (by kernel_rfl) (by kernel_rfl) (by kernel_rfl) (by kernel_rfl) (fun _ _ _ h => h) (Or.inl ⟨by rfl, ?_⟩) hHeld ?_
  · intro w hSw
    obtain h0 := hSw
    first
      | rfl
      | (go_simp; done)
  try simp only [Act.put, List.setIfInBounds_toArray, List.set_cons_zero, List.set_cons_succ]
  refine wpAnyT_take (i := 6) (oi := { dst := some 36, op := Op.indexAddr 63 (Operand.tmp 35) (Operand.tmp 33), type := 0, pos := "law.go:134", after := #[{ on := 5, ground := Ground.data }, { on := 3, ground := Ground.data }], guard := none }) (v := .pointer (some ⟨gp, 7, none⟩)) rfl (by kernel_rfl) (by kernel_rfl) (by kernel_rfl) (by kernel_rfl) (fun _ _ _ h => h) (Or.inl ⟨by rfl, ?_⟩) hHeld ?_
  · intro w hSw
    obtain h0 := hSw
    first
      | rfl
      | (go_simp; done)
  try simp only [Act.put, List.setIfInBounds_toArray, List.set_cons_zero, List.set_cons_succ]
  refine wpAnyT_take (i := 7) (oi := { dst := some 37, op := Op.load 40 (Operand.tmp 36), type := 40, pos := "law.go:134", after := #[{ on := 6, ground := Ground.data }], guard := none }) (v := ut) rfl (by kernel_rfl) (by kernel_rfl) (by kernel_rfl) (by kernel_rfl) (fun _ _ _ h => h) (Or.inl ⟨by rfl, ?_⟩) hHeld ?_
  · intro w hSw
    obtain h0 := hSw
    first
      | rfl
      | (go_simp; done)
  try simp only [Act.put, List.setIfInBounds_toArray, List.set_cons_zero, List.set_cons_succ]
  refine wpAnyT_take (i := 8) (oi := { dst := some 38, op := Op.move (Operand.tmp 6), type := 40, pos := "law.go:134", after := #[], guard := none }) (v := .slice al no cl) rfl (by kernel_rfl) (by kernel_rfl) (by kernel_rfl) (by kernel_rfl) (fun _ _ _ h => h) (Or.inl ⟨by rfl, ?_⟩) hHeld ?_
  · intro w hSw
    obtain h0 := hSw
    first
      | rfl
      | (go_simp; done)
  try simp only [Act.put, List.setIfInBounds_toArray, List.set_cons_zero, List.set_cons_succ]
  refine wpAnyT_one (i := 9) (o := { dst := some 39, op := Op.call { callee := Callee.builtin Builtin.append, args := #[Operand.tmp 37, Operand.tmp 38], argTypes := #[40, 40] }, type := 40, pos := "law.go:134", after := #[{ on := 7, ground := Ground.data }, { on := 8, ground := Ground.data }], guard := none }) (by kernel_rfl) rfl (fun K hK => ?_)
  refine wp_app_src (Operand.tmp 37) (Operand.tmp 38) 40 32 _ 1 24 Try.underlying40 infoSl (by simp [Value.cells]) (by decide) rfl B ut (P.X 3).length ((P.X 3).map Prod.fst) rfl (by rw [← unhide HUT]; exact (unhide HI4).rows 3 (by decide)) al no cl _ rfl (unhide HL4).1 (fun e => by have := unhide HL4; rw [e] at this; exact own_none this) (own_news (unhide HL4)) (fun u hu => ?_) (by have := unhide HX; have := unhide HO v; have := unhide HNO; unfold maxLen; omega) (by have := unhide HX; have := unhide HO v; have := unhide HNO; omega) (unhide HI4).low (fun tv w5 hv5 ho5 hk5 => ?_)
  · obtain ⟨x, hx, rfl⟩ := List.mem_map.1 hu
    exact (unhide HBO4 x hx).one
  obtain ⟨at5, ct5, htv⟩ := own_one hv5
  subst htv
  have ho5b : Only (fun k => (P.V 3).ownBlock = some k) w4 w5 := by rw [unhide HUT]; exact ho5
  have HI5 := hide ((unhide HI4).setV 3 (by decide) (x := P.X 3 ++ pairs (takeO (P.s 1) c q a b v)) ho5b (by rw [List.length_append, List.map_append, show (pairs (takeO (P.s 1) c q a b v)).length = no by rw [← unhide HNO]; exact List.length_map _, show (pairs (takeO (P.s 1) c q a b v)).map Prod.fst = (takeO (P.s 1) c q a b v).map Er.v by unfold pairs; rw [List.map_map]; rfl]; exact hv5) (by rw [unhide HUT]; exact hk5) (fun y hy => ?_))
  rotate_left
  · rcases List.mem_append.1 hy with hy | hy
    · exact ((unhide HI4).vb 3 (by decide) y hy).keep ho5b (fun k hk => (((unhide HI4).rows 3 (by decide)).lt k hk).1) (avoid_own ((unhide HI4).rows 3 (by decide)) (by decide))
    · obtain ⟨x, hx, rfl⟩ := List.mem_map.1 hy
      have : Own w5 x.v x.body := own_only (unhide HBO4 x hx) ho5 (avoid_own (show w4.ownsRow B 32 1 ut _ _ by rw [← unhide HUT]; exact (unhide HI4).rows 3 (by decide)) (by decide) _ _ _ _ _ (unhide HBO4 x hx))
      exact ⟨Own.byt this, .inr (.inr this)⟩
  have HB5 := hide ((unhide HB4).trans (ho5b.below (unhide HI4).low (fun k hk => (((unhide HI4).rows 3 (by decide)).lt k hk).1)))
  have hr5 : RowAt w5 gp 65 _ := (unhide HI4).row.only ho5b (fun e => tag_ne ((unhide HI4).rows 3 (by decide)) (unhide HI4).row (by decide) e)
  have hS5 : w5.cell? ⟨gp, 7, none⟩ = some ut := by rw [← unhide HUT]; exact hr5.cell 7
  have HF5 : Hid (w5.frozen? ⟨gp, 7, none⟩ = false) := hide (hr5.frozen 7)
  have HGBP := hide (unhide HI4).gB
  have HSZ5 := hide (Nat.le_trans (unhide HI4).low ho5.size)
  clear hv5 ho5 ho5b hk5 HI4 HB4 HL4 HBO4 hr5 hHeld
  refine hK.out _ _ (fun _ => hS5) ?_
  clear hK K
  try simp only [Act.put, List.setIfInBounds_toArray, List.set_cons_zero, List.set_cons_succ]
  refine wpAnyT_pure (i := 12) (oi := { dst := some 42, op := Op.indexAddr 63 (Operand.tmp 41) (Operand.tmp 31), type := 0, pos := "law.go:134", after := #[{ on := 11, ground := Ground.data }, { on := 1, ground := Ground.data }, { on := 0, ground := Ground.phase }, { on := 1, ground := Ground.phase }, { on := 2, ground := Ground.phase }, { on := 3, ground := Ground.phase }, { on := 4, ground := Ground.phase }, { on := 5, ground := Ground.phase }, { on := 6, ground := Ground.phase }, { on := 7, ground := Ground.phase }, { on := 8, ground := Ground.phase }, { on := 9, ground := Ground.phase }], guard := none }) (v := .pointer (some ⟨gp, 7, none⟩)) rfl (by kernel_rfl) (by kernel_rfl) (by kernel_rfl) rfl (fun _ _ _ h => h) (Or.inl ⟨by rfl, ?_⟩) ?_
  · intro w hSw
    first
      | rfl
      | (go_simp; done)
  try simp only [Act.put, List.setIfInBounds_toArray, List.set_cons_zero, List.set_cons_succ]
  have f5 := unhide HF5
  refine wpAnyT_one (i := 13) (o := { dst := none, op := Op.store 40 (Operand.tmp 42) (Operand.tmp 39), type := 0, pos := "law.go:134", after := #[{ on := 12, ground := Ground.data }, { on := 9, ground := Ground.data }, { on := 9, ground := Ground.chain }, { on := 0, ground := Ground.phase }, { on := 1, ground := Ground.phase }, { on := 2, ground := Ground.phase }, { on := 3, ground := Ground.phase }, { on := 4, ground := Ground.phase }, { on := 5, ground := Ground.phase }, { on := 6, ground := Ground.phase }, { on := 7, ground := Ground.phase }, { on := 8, ground := Ground.phase }, { on := 9, ground := Ground.phase }], guard := none }) (by kernel_rfl) rfl (fun K hK => ?_)
  go_simp
  refine hK.out _ _ (fun h => by cases h) ?_
  clear hK K
  try simp only [Act.put, List.setIfInBounds_toArray, List.set_cons_zero, List.set_cons_succ]
  refine wpAnyT_done (by kernel_rfl) ?_ _
  go_wp2_with fail
  go_end0
  refine ⟨rfl, v, vq, .slice at5 ((P.X 3).length + no) ct5, unhide HI5, (unhide HB5).trans ?_⟩
  have o6 : Only (· = gp) w5 (w5.setCell ⟨gp, 7, none⟩ (.slice at5 ((P.X 3).length + no) ct5)) := Only.set (p := (· = gp)) (Only.refl _ _) gp 7 _ rfl
  exact o6.below (unhide HSZ5) (fun k hk => by rw [hk]; exact unhide HGBP)
end Go.Proofs.Ytmkpphkdaiienaa
