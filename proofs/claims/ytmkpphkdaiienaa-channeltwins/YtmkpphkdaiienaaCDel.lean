/- Bodies that came are no more: slices.Delete from the first on. -/
import Derived.Test.YtmkpphkdaiienaaCSn2
namespace Go.Proofs.Ytmkpphkdaiienaa
set_option linter.unusedVariables false
set_option linter.unusedSimpArgs false
open Go.ChangeShapes Go.WideShapes Go.ChangeAt Go.RowKit Go.Joins Go.Deep

def setL : List Value → Nat → List Value → List Value
  | cs, _, [] => cs
  | cs, o, v :: r => setL (cs.set o v) (o + 1) r
theorem setL_len : ∀ (vs cs : List Value) (o : Nat), (setL cs o vs).length = cs.length
  | [], cs, o => rfl
  | v :: r, cs, o => by rw [setL, setL_len r]; simp
theorem setL_take : ∀ (vs cs : List Value) (o m : Nat), m ≤ o → (setL cs o vs).take m = cs.take m
  | [], cs, o, m, _ => rfl
  | v :: r, cs, o, m, h => by rw [setL, setL_take r _ _ _ (by omega), List.take_set_of_le h]
theorem setL_here : ∀ (vs cs : List Value) (o : Nat), o + vs.length ≤ cs.length → (setL cs o vs).take (o + vs.length) = cs.take o ++ vs
  | [], cs, o, _ => by simp [setL]
  | v :: r, cs, o, h => by
    simp only [List.length_cons] at h
    have ih := setL_here r (cs.set o v) (o + 1) (by rw [List.length_set]; omega)
    rw [setL, List.length_cons, show o + (r.length + 1) = o + 1 + r.length by omega, ih]
    rw [List.take_succ_eq_append_getElem (by rw [List.length_set]; omega), List.take_set_of_le (Nat.le_refl _)]
    simp
theorem RowAt.sets {g : Nat} {t : TypeId} : ∀ (vs cs : List Value) (o : Nat) (w : World), RowAt w g t cs → RowAt (w.setCells g o vs) g t (setL cs o vs)
  | [], cs, o, w, h => h
  | v :: r, cs, o, w, h => RowAt.sets r _ _ _ (h.set o v)
theorem Only.sets {p : Nat → Prop} {a : World} {g : Nat} (hg : p g) : ∀ (vs : List Value) (o : Nat) (b : World), Only p a b → Only p a (b.setCells g o vs)
  | [], o, b, h => h
  | v :: r, o, b, h => Only.sets hg r _ _ (h.set g o v hg)
theorem own_row {w : World} {B n : Nat} {v : Value} {xs : List Value} (h : w.ownsRow B 96 4 v n xs) (hn : 0 < n) : ∃ g cap cs, v = .slice (some ⟨g, 0, none⟩) n cap ∧ B ≤ g ∧ RowAt w g 96 cs ∧ n ≤ cap ∧ cap ≤ maxLen ∧ cs.length = cap * 4 ∧ cs.take (n * 4) = xs := by
  rcases h.2 with ⟨_, h0⟩ | ⟨g, cap, cur, rfl, h1, h2, h3, h4, h5, h6⟩
  · omega
  · exact ⟨g, cap, cur.toList, rfl, h1, h2, h3, h4, by simpa using h5, h6⟩
theorem row_own {w : World} {B n g cap : Nat} {cs xs : List Value} (h1 : B ≤ g) (h : RowAt w g 96 cs) (h2 : n ≤ cap) (h3 : cap ≤ maxLen) (h4 : cs.length = cap * 4) (h5 : cs.take (n * 4) = xs) : w.ownsRow B 96 4 (.slice (some ⟨g, 0, none⟩) n cap) n xs := by
  refine ⟨?_, .inr ⟨g, cap, cs.toArray, rfl, h1, h, h2, h3, by simpa using h4, by simpa using h5⟩⟩
  rw [← h5, List.length_take]
  omega
theorem zero96 (w : World) : (zeroValue 96).run Try.prog w = .ok (.agg #[.int .i64 0, .slice none 0 0, .bool false, .int .i64 0]) w := by kernel_rfl
def zc (k : Nat) : List Value := (Builtin.zeroCells #[.int .i64 0, .slice none 0 0, .bool false, .int .i64 0] k).toList
theorem zc_len (k : Nat) : (zc k).length = k * 4 := by simp [zc, Builtin.zeroCells]
theorem zc_one (k : Nat) : ∀ u ∈ zc k, u.oneCell' = true := by
  intro u hu
  simp only [zc, Builtin.zeroCells, Array.toList_map, List.mem_map] at hu
  obtain ⟨i, _, rfl⟩ := hu
  have : i % 4 < 4 := Nat.mod_lt _ (by decide)
  show (#[Value.int .i64 0, .slice none 0 0, .bool false, .int .i64 0][i % 4]!).oneCell' = true
  rcases (show i % 4 = 0 ∨ i % 4 = 1 ∨ i % 4 = 2 ∨ i % 4 = 3 by omega) with h | h | h | h <;> rw [h] <;> rfl
theorem run_clear {w : World} {g o k c : Nat} (ty : TypeId) (cs : List Value) (h : RowAt w g 96 cs) (hk : 0 < k) (hl : o + k * 4 ≤ cs.length) :
    (Builtin.clear_ #[73] ty #[.slice (some ⟨g, o, none⟩) k c]).run Try.prog w = .ok (.tuple #[]) (w.setCells g o (zc k)) := by
  have hst := run_storeCells_cells (P := Try.prog) g o (zc k) 0 w (fun j hj => by
    rw [zc_len] at hj
    rw [h.cell, List.getElem?_eq_getElem (by omega)]
    rfl) (fun j hj => h.frozen _) (zc_one k)
  simp only [Nat.add_zero] at hst
  obtain ⟨m, rfl⟩ : ∃ m, k = m + 1 := ⟨k - 1, by omega⟩
  simp only [Builtin.clear_]
  simp [run_underlying Try.underlying73, zero96, zc] at hst ⊢
  simp [Value.cells, hst]
theorem wpList_clear {ops : Array Oper} {rest : List Oper} {o : Oper} {a : Act} {w : World} {Q : Exit → Act → World → Prop} (hgd : o.guard = none) (x : Operand) (ho : o.op = .call { callee := .builtin .clear, args := #[x], argTypes := #[73] })
    (g off k c : Nat) (cs : List Value) (hx : a.eval x = .slice (some ⟨g, off, none⟩) k c) (h : RowAt w g 96 cs) (hk : 0 < k) (hl : off + k * 4 ≤ cs.length)
    (H : wpList Try.prog ops Q rest (a.put o.dst (.tuple #[])) (w.setCells g off (zc k))) : wpList Try.prog ops Q (o :: rest) a w := by
  refine wpList_plain hgd fun K hK => ?_
  have hr := run_clear (c := c) o.type cs h hk hl
  unfold Oper.wp execOp
  simp only [ho, resolve, invoke, builtin, Sem.run_bind, Sem.run_pure, Result.andThen_ok, List.map_toArray, List.map_cons, List.map_nil, hx, hr]
  exact hK _ _ H
theorem run_size {t : TypeId} {n : Nat} (h : (Try.prog.info? t).map (·.size) = some n) (w : World) : (sizeOf t).run Try.prog w = .ok n w := by
  obtain ⟨i, h1, h2⟩ := Option.map_eq_some_iff.1 h
  simp [sizeOf, typeInfo, h1, h2]
theorem exec_slice1 {P : Program} {o : Oper} {ev : Operand → Value} {w : World} (t : TypeId) (x lo : Operand) (ho : o.op = .slice t x (some lo) none none) (v vl : Value) (hx : ev x = v) (hlo : ev lo = vl) (r : Value)
    (hrun : (Instr.sliceAt t v (some vl) none none).run P w = .ok r w) : (execOp ev o).run P w = .ok (Next.value r) w := by
  unfold execOp
  simp only [ho, hx, hlo, Option.map_some, Option.map_none, Sem.run_bind, Sem.run_pure, Result.andThen_ok, hrun]
theorem z96 : (Try.prog.info? 96).map (·.size) = some 4 := by kernel_rfl
theorem info96 : ∃ i, Try.prog.info? 96 = some i ∧ i.size = 4 := by
  obtain ⟨i, h1, _, h2, _⟩ := info_parts infoPar
  exact ⟨i, h1, h2⟩
def DelR (w : World) (B n k : Nat) (vq : Value) (xs : List Value) (r : Ending) (w' : World) : Prop :=
  ∃ v', r = .returned v' ∧ w'.ownsRow B 96 4 v' (n - k) (xs.drop (k * 4)) ∧ Only (fun i => vq.ownBlock = some i) w w' ∧ ∀ i, v'.ownBlock = some i → vq.ownBlock = some i
theorem step_app_none {P : Program} {o : Oper} {a : Act} {w : World} {K : Act → World → Prop} {Q : Exit → Act → World → Prop} (s x : Operand) (t e : TypeId) (hop : o.op = Op.call { callee := Callee.builtin Builtin.append, args := #[s, x], argTypes := #[t, t] })
    (h1 : P.underlying t = some (.slice e)) (i : TypeInfo) (h2 : P.info? e = some i) (b : Addr) (cap c : Nat) (ax : Option Addr) (m : Nat) (hm : m = 0) (hs : a.eval s = .slice (some b) 0 cap) (hx : a.eval x = .slice ax m c)
    (hK : K (a.put o.dst (.slice (some b) m cap)) w) : Oper.wp P o a w K Q := by
  subst hm
  have hrun : (Builtin.append_ #[t, t] o.type #[.slice (some b) 0 cap, .slice ax 0 c]).run P w = .ok (.slice (some b) 0 cap) w := by
    cases ax <;> simp [Builtin.append_, run_underlying h1, sizeOf, typeInfo, h2, Builtin.lenOf, Builtin.firstCells, loadCells, loadCellsFrom, storeCells]
  unfold Oper.wp
  simp [execOp, hop, resolve, invoke, builtin, hs, hx, hrun, Result.andThen]
  exact hK
set_option maxRecDepth 100000 in
set_option maxHeartbeats 4000000 in
theorem del_any (w : World) (B n k : Nat) (vq : Value) (xs : List Value) (h : w.ownsRow B 96 4 vq n xs) (hk : k ≤ n) (hn : n ≤ 1000) (h1 : ∀ u ∈ xs, u.oneCell' = true) :
    Calls Try.prog 56 #[vq, .int .i64 0, .int .i64 (k : Int)] w fun r w' => DelR w B n k vq xs r w' := by
  by_cases h0 : k = 0
  · subst h0
    obtain ⟨a, c, rfl⟩ := own_one h
    have hc : n ≤ c := by
      rcases h.2 with ⟨e, h0⟩ | ⟨g, cap, cur, e, _, _, h3, _⟩
      · omega
      · injection e with _ _ e; omega
    have HR : Hid (DelR w B n 0 (.slice a n c) xs (.returned (.slice a n c)) w) := hide ⟨_, rfl, by simpa using h, Only.refl _ _, fun _ hi => hi⟩
    clear h h1
    have i1 : (0 : Int) ≤ (n : Int) := by omega
    have i2 : (n : Int) ≤ (c : Int) := by omega
    go_enter Try.func56, Try.ntmps56
    go_wp2_with fail
    go_ret
    exact unhide HR
  · have hn0 : 0 < n := by omega
    obtain ⟨g, cap, cs, rfl, hB, hrow, hcap, hmax, hlen, htake⟩ := own_row h hn0
    have HROW := hide hrow.drew
    have HLEN := hide hlen
    have HTAKE := hide htake
    have HB := hide hB
    have HMAX := hide hmax
    have HXL := hide h.1
    have H1 := hide h1
    obtain ⟨i0, hi0, hi4⟩ := info96
    clear h h1 hrow hlen htake hB hmax
    have i1 : (0 : Int) ≤ (n : Int) := by omega
    have i2 : (n : Int) ≤ (cap : Int) := by omega
    have i3 : (k : Int) ≤ (n : Int) := by omega
    have i4 : (0 : Int) ≤ (k : Int) := by omega
    have i5 : ((0 : Int) == (k : Int)) = false := by simp; omega
    have i6 : (k : Int) ≤ (cap : Int) := by omega
    go_enter Try.func56, Try.ntmps56
    go_wp2_with fail
    refine wp_region_T (S := fun _ => True) (fun i => decide (i < 7)) (by kernel_rfl) trivial (fun hHeld => ?_)
    obtain ⟨wd, hwd⟩ : ∃ z, w.drew = z := ⟨_, rfl⟩
    have HOD := hide (Only.drew (Only.refl (fun i => (Value.slice (some ⟨g, 0, none⟩) n cap).ownBlock = some i) w))
    rw [hwd] at HROW HOD ⊢
    clear hwd
    obtain ⟨ax, hax⟩ : ∃ z, (if cap = k then some (⟨g, 0, none⟩ : Addr) else some ⟨g, k * 4, none⟩) = z := ⟨_, rfl⟩
    have HSL : ∀ w, Hid ((Instr.sliceAt 73 (.slice (some ⟨g, 0, none⟩) n cap) (some (.int .i64 (k : Int))) none none).run Try.prog w = .ok (.slice ax (n - k) (cap - k)) w) := by
      intro w
      have e1 : ((0 : Int) ≤ (n : Int) ∧ (n : Int) ≤ (cap : Int)) := by omega
      have e3 : ((0 : Int) ≤ (k : Int) ∧ (k : Int) ≤ (n : Int)) := by omega
      refine hide ?_
      rw [← hax]
      simp [Instr.sliceAt, run_underlying Try.underlying73, Instr.slice, Instr.sliceBounds, Instr.sliceBound, asIntOf, e1, e1.1, e1.2, e3, e3.1, e3.2, hk, hcap, run_size z96, Addr.add_lit]
    refine wpAnyT_take (i := 0) (oi := { dst := some 20, op := Op.move (Operand.tmp 0), type := 73, pos := "slices.go:232", after := #[], guard := none }) (v := .slice (some ⟨g, 0, none⟩) n cap) rfl (by kernel_rfl) (by kernel_rfl) (by kernel_rfl) (by kernel_rfl) (fun _ _ _ h => h) (Or.inl ⟨by rfl, ?_⟩) hHeld ?_
    · intro w hSw
      first
        | rfl
        | (go_simp; done)
    try simp only [Act.put, List.setIfInBounds_toArray, List.set_cons_zero, List.set_cons_succ]
    refine wpAnyT_take (i := 1) (oi := { dst := some 21, op := Op.move (Operand.tmp 1), type := 3, pos := "slices.go:232", after := #[], guard := none }) (v := .int .i64 0) rfl (by kernel_rfl) (by kernel_rfl) (by kernel_rfl) (by kernel_rfl) (fun _ _ _ h => h) (Or.inl ⟨by rfl, ?_⟩) hHeld ?_
    · intro w hSw
      first
        | rfl
        | (go_simp; done)
    try simp only [Act.put, List.setIfInBounds_toArray, List.set_cons_zero, List.set_cons_succ]
    refine wpAnyT_take (i := 2) (oi := { dst := some 22, op := Op.slice 73 (Operand.tmp 20) none (some (Operand.tmp 21)) none, type := 73, pos := "slices.go:232", after := #[{ on := 0, ground := Ground.data }, { on := 1, ground := Ground.data }], guard := none }) (v := .slice (some ⟨g, 0, none⟩) 0 cap) rfl (by kernel_rfl) (by kernel_rfl) (by kernel_rfl) (by kernel_rfl) (fun _ _ _ h => h) (Or.inl ⟨by rfl, ?_⟩) hHeld ?_
    · intro w hSw
      first
        | rfl
        | (go_simp; done)
    try simp only [Act.put, List.setIfInBounds_toArray, List.set_cons_zero, List.set_cons_succ]
    refine wpAnyT_take (i := 3) (oi := { dst := some 23, op := Op.move (Operand.tmp 0), type := 73, pos := "slices.go:232", after := #[], guard := none }) (v := .slice (some ⟨g, 0, none⟩) n cap) rfl (by kernel_rfl) (by kernel_rfl) (by kernel_rfl) (by kernel_rfl) (fun _ _ _ h => h) (Or.inl ⟨by rfl, ?_⟩) hHeld ?_
    · intro w hSw
      first
        | rfl
        | (go_simp; done)
    try simp only [Act.put, List.setIfInBounds_toArray, List.set_cons_zero, List.set_cons_succ]
    refine wpAnyT_take (i := 4) (oi := { dst := some 24, op := Op.move (Operand.tmp 2), type := 3, pos := "slices.go:232", after := #[], guard := none }) (v := .int .i64 (k : Int)) rfl (by kernel_rfl) (by kernel_rfl) (by kernel_rfl) (by kernel_rfl) (fun _ _ _ h => h) (Or.inl ⟨by rfl, ?_⟩) hHeld ?_
    · intro w hSw
      first
        | rfl
        | (go_simp; done)
    try simp only [Act.put, List.setIfInBounds_toArray, List.set_cons_zero, List.set_cons_succ]
    refine wpAnyT_take (i := 5) (oi := { dst := some 25, op := Op.slice 73 (Operand.tmp 23) (some (Operand.tmp 24)) none none, type := 73, pos := "slices.go:232", after := #[{ on := 3, ground := Ground.data }, { on := 4, ground := Ground.data }], guard := none }) (v := .slice ax (n - k) (cap - k)) rfl (by kernel_rfl) (by kernel_rfl) (by kernel_rfl) (by kernel_rfl) (fun _ _ _ h => h) (Or.inl ⟨by rfl, ?_⟩) hHeld ?_
    · intro w hSw
      exact exec_slice1 73 (.tmp 23) (.tmp 24) rfl _ _ rfl rfl _ (unhide (HSL w))
    try simp only [Act.put, List.setIfInBounds_toArray, List.set_cons_zero, List.set_cons_succ]
    by_cases hkn : k = n
    · have hm : n - k = 0 := by omega
      have hx0 : xs.drop (k * 4) = [] := List.drop_eq_nil_of_le (by rw [unhide HXL, hkn]; omega)
      refine wpAnyT_one (i := 6) (o := { dst := some 26, op := Op.call { callee := Callee.builtin Builtin.append, args := #[Operand.tmp 22, Operand.tmp 25], argTypes := #[73, 73] }, type := 73, pos := "slices.go:232", after := #[{ on := 2, ground := Ground.data }, { on := 5, ground := Ground.data }], guard := none }) (by kernel_rfl) rfl (fun K hK => ?_)
      rw [if_pos (by rfl)]
      refine step_app_none (Operand.tmp 22) (Operand.tmp 25) 73 96 rfl Try.underlying73 i0 hi0 _ cap (cap - k) ax (n - k) hm rfl rfl ?_
      refine hK.out _ _ (fun _ => trivial) ?_
      clear hK K
      try simp only [Act.put, List.setIfInBounds_toArray, List.set_cons_zero, List.set_cons_succ]
      have HN : Hid (RowAt wd g 96 (setL cs 0 (xs.drop (k * 4)))) := hide (by rw [hx0]; exact unhide HROW)
      have HON : Hid (Only (fun i => (Value.slice (some ⟨g, 0, none⟩) n cap).ownBlock = some i) w wd) := HOD
      obtain ⟨wn, hwn⟩ : ∃ z, wd = z := ⟨_, rfl⟩
      rw [hwn] at HN HON ⊢
      clear hwn hx0 hm HROW HOD
      refine wpAnyT_pure (i := 7) (oi := { dst := some 0, op := Op.assign (Operand.tmp 26), type := 73, pos := "slices.go:232", after := #[{ on := 6, ground := Ground.data }, { on := 6, ground := Ground.chain }, { on := 0, ground := Ground.phase }, { on := 1, ground := Ground.phase }, { on := 2, ground := Ground.phase }, { on := 3, ground := Ground.phase }, { on := 4, ground := Ground.phase }, { on := 5, ground := Ground.phase }, { on := 6, ground := Ground.phase }], guard := none }) (v := .slice (some ⟨g, 0, none⟩) (n - k) cap) rfl (by kernel_rfl) (by kernel_rfl) (by kernel_rfl) rfl (fun _ _ _ h => h) (Or.inl ⟨by rfl, ?_⟩) ?_
      · intro w hSw
        first
          | rfl
          | (go_simp; done)
      try simp only [Act.put, List.setIfInBounds_toArray, List.set_cons_zero, List.set_cons_succ]
      refine wpAnyT_done (by kernel_rfl) ?_ _
      obtain ⟨m, hm⟩ : ∃ m, n - k = m := ⟨_, rfl⟩
      have hmn : m + k = n := by omega
      rw [hm]
      have j1 : (0 : Int) ≤ (m : Int) := by omega
      have j2 : (m : Int) ≤ (n : Int) := by omega
      have j3 : ¬ cap = m := by omega
      have HL2 : Hid ((setL cs 0 (xs.drop (k * 4))).length = cap * 4) := hide (by rw [setL_len]; exact unhide HLEN)
      have HT2 : Hid ((setL cs 0 (xs.drop (k * 4))).take (m * 4) = xs.drop (k * 4)) := hide (by
        have hl : (xs.drop (k * 4)).length = m * 4 := by rw [List.length_drop, unhide HXL]; omega
        have := setL_here (xs.drop (k * 4)) cs 0 (by rw [hl, unhide HLEN]; omega)
        rw [hl, Nat.zero_add] at this
        simpa using this)
      obtain ⟨c2, hc2⟩ : ∃ z, setL cs 0 (xs.drop (k * 4)) = z := ⟨_, rfl⟩
      rw [hc2] at HN HL2 HT2
      have hcl : (Builtin.clear_ #[73] 0 #[.slice (some ⟨g, m * 4, none⟩) (n - m) (cap - m)]).run Try.prog wn = .ok (.tuple #[]) (wn.setCells g (m * 4) (zc (n - m))) := run_clear 0 c2 (unhide HN) (by omega) (by rw [unhide HL2]; omega)
      go_wp2_with fail
      go_ret
      refine ⟨_, rfl, by rw [hm]; exact row_own (unhide HB) (RowAt.sets (zc (n - m)) c2 (m * 4) wn (unhide HN)) (by omega) (unhide HMAX) (by rw [setL_len]; exact unhide HL2) (by rw [setL_take _ _ _ _ (by omega)]; exact unhide HT2), Only.sets (p := fun i => (Value.slice (some ⟨g, 0, none⟩) n cap).ownBlock = some i) rfl _ _ _ (unhide HON), fun i hi => hi⟩
    · have HRW := unhide HROW
      have hm : 0 < n - k := by omega
      have hck : ¬ cap = k := by omega
      rw [if_neg hck] at hax
      subst hax
      have HC : Hid (∀ j u, (xs.drop (k * 4))[j]? = some u → wd.cell? ((⟨g, k * 4, none⟩ : Addr).add j) = some u) := hide (fun j u hj => by
        rw [add_plain, HRW.cell]
        rw [List.getElem?_drop] at hj
        rw [← unhide HTAKE] at hj
        rw [List.getElem?_take] at hj
        split at hj
        · exact hj
        · cases hj)
      have HL1 : Hid ((xs.drop (k * 4)).length = (n - k) * 4) := hide (by rw [List.length_drop, unhide HXL]; omega)
      have HSP : Hid (∀ j, j < (xs.drop (k * 4)).length → (wd.cell? ⟨g, 0 + 0 * 4 + j, none⟩).isSome = true ∧ wd.frozen? ⟨g, 0 + 0 * 4 + j, none⟩ = false) := hide (fun j hj => by
        rw [unhide HL1] at hj
        have := unhide HLEN
        rw [HRW.cell, HRW.frozen, List.getElem?_eq_getElem (by omega)]
        exact ⟨rfl, rfl⟩)
      refine wpAnyT_one (i := 6) (o := { dst := some 26, op := Op.call { callee := Callee.builtin Builtin.append, args := #[Operand.tmp 22, Operand.tmp 25], argTypes := #[73, 73] }, type := 73, pos := "slices.go:232", after := #[{ on := 2, ground := Ground.data }, { on := 5, ground := Ground.data }], guard := none }) (by kernel_rfl) rfl (fun K hK => ?_)
      refine step_append_room rfl (Operand.tmp 22) (Operand.tmp 25) 73 rfl 96 i0 4 Try.underlying73 hi0 hi4 g 0 0 cap rfl ⟨g, k * 4, none⟩ (n - k) (cap - k) (xs.drop (k * 4)) rfl (unhide HL1) (unhide HC) (fun u hu => unhide H1 u (List.mem_of_mem_drop hu)) (by omega) (unhide HSP) ?_
      refine hK.out _ _ (fun _ => trivial) ?_
      clear hK K
      try simp only [Act.put, List.setIfInBounds_toArray, List.set_cons_zero, List.set_cons_succ]
      have HN : Hid (RowAt (wd.setCells g 0 (xs.drop (k * 4))) g 96 (setL cs 0 (xs.drop (k * 4)))) := hide (RowAt.sets _ _ _ _ HRW)
      have HON : Hid (Only (fun i => (Value.slice (some ⟨g, 0, none⟩) n cap).ownBlock = some i) w (wd.setCells g 0 (xs.drop (k * 4)))) := hide (Only.sets (p := fun i => (Value.slice (some ⟨g, 0, none⟩) n cap).ownBlock = some i) rfl _ _ _ (unhide HOD))
      have hz : 0 + (n - k) = n - k := by omega
      rw [hz]
      have hz2 : 0 + 0 * 4 = 0 := rfl
      simp only [hz2]
      obtain ⟨wn, hwn⟩ : ∃ z, wd.setCells g 0 (xs.drop (k * 4)) = z := ⟨_, rfl⟩
      rw [hwn] at HN HON ⊢
      clear hwn hz hz2 hm hck HRW HC HL1 HSP HROW HOD
      refine wpAnyT_pure (i := 7) (oi := { dst := some 0, op := Op.assign (Operand.tmp 26), type := 73, pos := "slices.go:232", after := #[{ on := 6, ground := Ground.data }, { on := 6, ground := Ground.chain }, { on := 0, ground := Ground.phase }, { on := 1, ground := Ground.phase }, { on := 2, ground := Ground.phase }, { on := 3, ground := Ground.phase }, { on := 4, ground := Ground.phase }, { on := 5, ground := Ground.phase }, { on := 6, ground := Ground.phase }], guard := none }) (v := .slice (some ⟨g, 0, none⟩) (n - k) cap) rfl (by kernel_rfl) (by kernel_rfl) (by kernel_rfl) rfl (fun _ _ _ h => h) (Or.inl ⟨by rfl, ?_⟩) ?_
      · intro w hSw
        first
          | rfl
          | (go_simp; done)
      try simp only [Act.put, List.setIfInBounds_toArray, List.set_cons_zero, List.set_cons_succ]
      refine wpAnyT_done (by kernel_rfl) ?_ _
      obtain ⟨m, hm⟩ : ∃ m, n - k = m := ⟨_, rfl⟩
      have hmn : m + k = n := by omega
      rw [hm]
      have j1 : (0 : Int) ≤ (m : Int) := by omega
      have j2 : (m : Int) ≤ (n : Int) := by omega
      have j3 : ¬ cap = m := by omega
      have HL2 : Hid ((setL cs 0 (xs.drop (k * 4))).length = cap * 4) := hide (by rw [setL_len]; exact unhide HLEN)
      have HT2 : Hid ((setL cs 0 (xs.drop (k * 4))).take (m * 4) = xs.drop (k * 4)) := hide (by
        have hl : (xs.drop (k * 4)).length = m * 4 := by rw [List.length_drop, unhide HXL]; omega
        have := setL_here (xs.drop (k * 4)) cs 0 (by rw [hl, unhide HLEN]; omega)
        rw [hl, Nat.zero_add] at this
        simpa using this)
      obtain ⟨c2, hc2⟩ : ∃ z, setL cs 0 (xs.drop (k * 4)) = z := ⟨_, rfl⟩
      rw [hc2] at HN HL2 HT2
      have hcl : (Builtin.clear_ #[73] 0 #[.slice (some ⟨g, m * 4, none⟩) (n - m) (cap - m)]).run Try.prog wn = .ok (.tuple #[]) (wn.setCells g (m * 4) (zc (n - m))) := run_clear 0 c2 (unhide HN) (by omega) (by rw [unhide HL2]; omega)
      go_wp2_with fail
      go_ret
      refine ⟨_, rfl, by rw [hm]; exact row_own (unhide HB) (RowAt.sets (zc (n - m)) c2 (m * 4) wn (unhide HN)) (by omega) (unhide HMAX) (by rw [setL_len]; exact unhide HL2) (by rw [setL_take _ _ _ _ (by omega)]; exact unhide HT2), Only.sets (p := fun i => (Value.slice (some ⟨g, 0, none⟩) n cap).ownBlock = some i) rfl _ _ _ (unhide HON), fun i hi => hi⟩
end Go.Proofs.Ytmkpphkdaiienaa
