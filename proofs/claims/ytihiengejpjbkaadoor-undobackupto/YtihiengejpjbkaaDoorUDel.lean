/- slices.Delete on a pile: the first ones, or the last one. -/
import Derived.Test.YtihiengejpjbkaaDoorFof
import Derived.Maps.AppendAt
import Derived.Deep.SlicePairs
import Derived.ChangeSlices
namespace Go.Proofs.YtihiengejpjbkaaDoor
set_option linter.unusedVariables false
set_option linter.unusedSimpArgs false
open Go.ChangeShapes Go.WideShapes Go.ChangeAt Go.RowKit Go.Joins Go.Deep

def setL : List Value → Nat → List Value → List Value
  | cs, _, [] => cs
  | cs, o, v :: r => setL (cs.set o v) (o + 1) r
theorem setL_len : ∀ (vs cs : List Value) (o : Nat), (setL cs o vs).length = cs.length
  | [], cs, o => rfl
  | v :: r, cs, o => by rw [setL, setL_len r]; simp
theorem setL_take : ∀ (vs cs : List Value) (o m : Nat), m ≤ o → (setL cs o vs).take m = cs.take m
  | [], cs, o, m, _ => rfl
  | v :: r, cs, o, m, h => by rw [setL, setL_take r _ _ _ (by omega), List.take_set_of_le h]
theorem setL_here : ∀ (vs cs : List Value) (o : Nat), o + vs.length ≤ cs.length → (setL cs o vs).take (o + vs.length) = cs.take o ++ vs
  | [], cs, o, _ => by simp [setL]
  | v :: r, cs, o, h => by
    simp only [List.length_cons] at h
    have ih := setL_here r (cs.set o v) (o + 1) (by rw [List.length_set]; omega)
    rw [setL, List.length_cons, show o + (r.length + 1) = o + 1 + r.length by omega, ih]
    rw [List.take_succ_eq_append_getElem (by rw [List.length_set]; omega), List.take_set_of_le (Nat.le_refl _)]
    simp
theorem RowAt.sets {g : Nat} {t : TypeId} : ∀ (vs cs : List Value) (o : Nat) (w : World), RowAt w g t cs → RowAt (w.setCells g o vs) g t (setL cs o vs)
  | [], cs, o, w, h => h
  | v :: r, cs, o, w, h => RowAt.sets r _ _ _ (h.set o v)
theorem Only.sets {p : Nat → Prop} {a : World} {g : Nat} (hg : p g) : ∀ (vs : List Value) (o : Nat) (b : World), Only p a b → Only p a (b.setCells g o vs)
  | [], o, b, h => h
  | v :: r, o, b, h => Only.sets hg r _ _ (h.set g o v hg)
theorem pl_row {w : World} {B n : Nat} {v : Value} {xs : List Value} (h : w.ownsRow B 32 1 v n xs) (hn : 0 < n) : ∃ g cap cs, v = .slice (some ⟨g, 0, none⟩) n cap ∧ B ≤ g ∧ RowAt w g 32 cs ∧ n ≤ cap ∧ cap ≤ maxLen ∧ cs.length = cap ∧ cs.take n = xs := by
  rcases h.2 with ⟨_, h0⟩ | ⟨g, cap, cur, rfl, h1, h2, h3, h4, h5, h6⟩
  · omega
  · exact ⟨g, cap, cur.toList, rfl, h1, h2, h3, h4, by simpa using h5, by simpa using h6⟩
theorem row_pl {w : World} {B n g cap : Nat} {cs xs : List Value} (h1 : B ≤ g) (h : RowAt w g 32 cs) (h2 : n ≤ cap) (h3 : cap ≤ maxLen) (h4 : cs.length = cap) (h5 : cs.take n = xs) : w.ownsRow B 32 1 (.slice (some ⟨g, 0, none⟩) n cap) n xs := by
  refine ⟨?_, .inr ⟨g, cap, cs.toArray, rfl, h1, h, h2, h3, by simpa using h4, by simpa using h5⟩⟩
  rw [← h5, List.length_take]
  omega
theorem pl_one {w : World} {B s n : Nat} {e : TypeId} {v : Value} {xs : List Value} (h : w.ownsRow B e s v n xs) : ∃ a c, v = .slice a n c := by
  rcases h.2 with ⟨rfl, rfl⟩ | ⟨g, c, cur, rfl, _⟩
  · exact ⟨none, 0, rfl⟩
  · exact ⟨_, _, rfl⟩
theorem zero32 (w : World) : (zeroValue 32).run Tryd.prog w = .ok (.slice none 0 0) w := by kernel_rfl
def zc (k : Nat) : List Value := (Builtin.zeroCells #[.slice none 0 0] k).toList
theorem zc_len (k : Nat) : (zc k).length = k := by simp [zc, Builtin.zeroCells]
theorem zc_one (k : Nat) : ∀ u ∈ zc k, u.oneCell' = true := by
  intro u hu
  simp only [zc, Builtin.zeroCells, Array.toList_map, List.mem_map] at hu
  obtain ⟨i, _, rfl⟩ := hu
  have : i % 1 = 0 := Nat.mod_one _
  show (#[Value.slice none 0 0][i % 1]!).oneCell' = true
  rw [this]
  rfl
theorem run_clear {w : World} {g o k c : Nat} (ty : TypeId) (cs : List Value) (h : RowAt w g 32 cs) (hk : 0 < k) (hl : o + k ≤ cs.length) :
    (Builtin.clear_ #[63] ty #[.slice (some ⟨g, o, none⟩) k c]).run Tryd.prog w = .ok (.tuple #[]) (w.setCells g o (zc k)) := by
  have hst := run_storeCells_cells (P := Tryd.prog) g o (zc k) 0 w (fun j hj => by
    rw [zc_len] at hj
    rw [h.cell, List.getElem?_eq_getElem (by omega)]
    rfl) (fun j hj => h.frozen _) (zc_one k)
  simp only [Nat.add_zero] at hst
  obtain ⟨m, rfl⟩ : ∃ m, k = m + 1 := ⟨k - 1, by omega⟩
  simp only [Builtin.clear_]
  simp [run_underlying Tryd.underlying63, zero32, zc] at hst ⊢
  simp [Value.cells, hst]
theorem run_size {t : TypeId} {n : Nat} (h : (Tryd.prog.info? t).map (·.size) = some n) (w : World) : (sizeOf t).run Tryd.prog w = .ok n w := by
  obtain ⟨i, h1, h2⟩ := Option.map_eq_some_iff.1 h
  simp [sizeOf, typeInfo, h1, h2]
theorem exec_slice1 {P : Program} {o : Oper} {ev : Operand → Value} {w : World} (t : TypeId) (x lo : Operand) (ho : o.op = .slice t x (some lo) none none) (v vl : Value) (hx : ev x = v) (hlo : ev lo = vl) (r : Value)
    (hrun : (Instr.sliceAt t v (some vl) none none).run P w = .ok r w) : (execOp ev o).run P w = .ok (Next.value r) w := by
  unfold execOp
  simp only [ho, hx, hlo, Option.map_some, Option.map_none, Sem.run_bind, Sem.run_pure, Result.andThen_ok, hrun]
theorem z32 : (Tryd.prog.info? 32).map (·.size) = some 1 := by kernel_rfl
theorem infoPl : ∃ i, Tryd.prog.info? 32 = some i ∧ i.zero = some (.slice none 0 0) ∧ i.size = 1 ∧ i.bytes = 24 := by
  have h : (Tryd.prog.info? 32).map (fun i => (i.zero, i.size, i.bytes)) = some (some (.slice none 0 0), 1, 24) := by kernel_rfl
  obtain ⟨i, h1, h2⟩ := Option.map_eq_some_iff.1 h
  exact ⟨i, h1, by simp at h2; exact h2.1, by simp at h2; exact h2.2.1, by simp at h2; exact h2.2.2⟩
def DelR (w : World) (B n : Nat) (vq : Value) (ys : List Value) (r : Ending) (w' : World) : Prop :=
  ∃ v', r = .returned v' ∧ w'.ownsRow B 32 1 v' n ys ∧ Only (fun i => vq.ownBlock = some i) w w' ∧ ∀ i, v'.ownBlock = some i → vq.ownBlock = some i
theorem DelR.shape {w w' : World} {B n : Nat} {vq : Value} {ys : List Value} {r : Ending} (h : DelR w B n vq ys r w') : ∃ v', r = .returned v' ∧ w'.ownsRow B 32 1 v' n ys ∧ Only (fun i => vq.ownBlock = some i) w w' ∧ ∀ i, v'.ownBlock = some i → vq.ownBlock = some i := h
theorem step_app_none {P : Program} {o : Oper} {a : Act} {w : World} {K : Act → World → Prop} {Q : Exit → Act → World → Prop} (s x : Operand) (t e : TypeId) (hop : o.op = Op.call { callee := Callee.builtin Builtin.append, args := #[s, x], argTypes := #[t, t] })
    (h1 : P.underlying t = some (.slice e)) (i : TypeInfo) (h2 : P.info? e = some i) (b : Addr) (q cap c : Nat) (ax : Option Addr) (m : Nat) (hm : m = 0) (hq : q ≤ cap) (hs : a.eval s = .slice (some b) q cap) (hx : a.eval x = .slice ax m c)
    (hK : K (a.put o.dst (.slice (some b) (q + m) cap)) w) : Oper.wp P o a w K Q := by
  subst hm
  rw [Nat.add_zero] at hK
  have hrun : (Builtin.append_ #[t, t] o.type #[.slice (some b) q cap, .slice ax 0 c]).run P w = .ok (.slice (some b) q cap) w := by
    cases ax <;> simp [Builtin.append_, run_underlying h1, sizeOf, typeInfo, h2, Builtin.lenOf, Builtin.firstCells, loadCells, loadCellsFrom, storeCells, hq]
  unfold Oper.wp
  simp [execOp, hop, resolve, invoke, builtin, hs, hx, hrun, Result.andThen]
  exact hK
set_option maxRecDepth 100000 in
set_option maxHeartbeats 4000000 in
theorem del_front (w : World) (B n k : Nat) (vq : Value) (xs : List Value) (h : w.ownsRow B 32 1 vq n xs) (hk : k ≤ n) (hn : n ≤ 1000) (h1 : ∀ u ∈ xs, u.oneCell' = true) :
    Calls Tryd.prog 63 #[vq, .int .i64 0, .int .i64 (k : Int)] w fun r w' => DelR w B (n - k) vq (xs.drop k) r w' := by
  by_cases h0 : k = 0
  · subst h0
    obtain ⟨a, c, rfl⟩ := pl_one h
    have hc : n ≤ c := by
      rcases h.2 with ⟨e, h0⟩ | ⟨g, cap, cur, e, _, _, h3, _⟩
      · omega
      · injection e with _ _ e; omega
    have HR : Hid (DelR w B (n - 0) (.slice a n c) (xs.drop 0) (.returned (.slice a n c)) w) := hide ⟨_, rfl, by simpa using h, Only.refl _ _, fun _ hi => hi⟩
    clear h h1
    have i1 : (0 : Int) ≤ (n : Int) := by omega
    have i2 : (n : Int) ≤ (c : Int) := by omega
    go_enter Tryd.func63, Tryd.ntmps63
    go_wp2_with fail
    go_ret
    exact unhide HR
  · have hn0 : 0 < n := by omega
    obtain ⟨g, cap, cs, rfl, hB, hrow, hcap, hmax, hlen, htake⟩ := pl_row h hn0
    have HROW := hide hrow.drew
    have HLEN := hide hlen
    have HTAKE := hide htake
    have HB := hide hB
    have HMAX := hide hmax
    have HXL := hide h.1
    have H1 := hide h1
    obtain ⟨i0, hi0, -, hi4, -⟩ := infoPl
    clear h h1 hrow hlen htake hB hmax
    have i1 : (0 : Int) ≤ (n : Int) := by omega
    have i2 : (n : Int) ≤ (cap : Int) := by omega
    have i3 : (k : Int) ≤ (n : Int) := by omega
    have i4 : (0 : Int) ≤ (k : Int) := by omega
    have i5 : ((0 : Int) == (k : Int)) = false := by simp; omega
    have i6 : (k : Int) ≤ (cap : Int) := by omega
    go_enter Tryd.func63, Tryd.ntmps63
    go_wp2_with fail
    refine wp_region_T (S := fun _ => True) (fun i => decide (i < 7)) (by kernel_rfl) trivial (fun hHeld => ?_)
    obtain ⟨wd, hwd⟩ : ∃ z, w.drew = z := ⟨_, rfl⟩
    have HOD := hide (Only.drew (Only.refl (fun i => (Value.slice (some ⟨g, 0, none⟩) n cap).ownBlock = some i) w))
    rw [hwd] at HROW HOD ⊢
    clear hwd
    obtain ⟨ax, hax⟩ : ∃ z, (if cap = k then some (⟨g, 0, none⟩ : Addr) else some ⟨g, k, none⟩) = z := ⟨_, rfl⟩
    have HSL : ∀ w, Hid ((Instr.sliceAt 63 (.slice (some ⟨g, 0, none⟩) n cap) (some (.int .i64 (k : Int))) none none).run Tryd.prog w = .ok (.slice ax (n - k) (cap - k)) w) := by
      intro w
      have e1 : ((0 : Int) ≤ (n : Int) ∧ (n : Int) ≤ (cap : Int)) := by omega
      have e3 : ((0 : Int) ≤ (k : Int) ∧ (k : Int) ≤ (n : Int)) := by omega
      refine hide ?_
      rw [← hax]
      simp [Instr.sliceAt, run_underlying Tryd.underlying63, Instr.slice, Instr.sliceBounds, Instr.sliceBound, asIntOf, e1, e1.1, e1.2, e3, e3.1, e3.2, hk, hcap, run_size z32, Addr.add_lit]
    refine wpAnyT_take (i := 0) (oi := { dst := some 20, op := Op.move (Operand.tmp 0), type := 63, pos := "slices.go:232", after := #[], guard := none }) (v := .slice (some ⟨g, 0, none⟩) n cap) rfl (by kernel_rfl) (by kernel_rfl) (by kernel_rfl) (by kernel_rfl) (fun _ _ _ h => h) (Or.inl ⟨by rfl, ?_⟩) hHeld ?_
    · intro w hSw
      first
        | rfl
        | (go_simp; done)
    try simp only [Act.put, List.setIfInBounds_toArray, List.set_cons_zero, List.set_cons_succ]
    refine wpAnyT_take (i := 1) (oi := { dst := some 21, op := Op.move (Operand.tmp 1), type := 3, pos := "slices.go:232", after := #[], guard := none }) (v := .int .i64 (0 : Int)) rfl (by kernel_rfl) (by kernel_rfl) (by kernel_rfl) (by kernel_rfl) (fun _ _ _ h => h) (Or.inl ⟨by rfl, ?_⟩) hHeld ?_
    · intro w hSw
      first
        | rfl
        | (go_simp; done)
    try simp only [Act.put, List.setIfInBounds_toArray, List.set_cons_zero, List.set_cons_succ]
    refine wpAnyT_take (i := 2) (oi := { dst := some 22, op := Op.slice 63 (Operand.tmp 20) none (some (Operand.tmp 21)) none, type := 63, pos := "slices.go:232", after := #[{ on := 0, ground := Ground.data }, { on := 1, ground := Ground.data }], guard := none }) (v := .slice (some ⟨g, 0, none⟩) 0 cap) rfl (by kernel_rfl) (by kernel_rfl) (by kernel_rfl) (by kernel_rfl) (fun _ _ _ h => h) (Or.inl ⟨by rfl, ?_⟩) hHeld ?_
    · intro w hSw
      first
        | rfl
        | (go_simp; done)
    try simp only [Act.put, List.setIfInBounds_toArray, List.set_cons_zero, List.set_cons_succ]
    refine wpAnyT_take (i := 3) (oi := { dst := some 23, op := Op.move (Operand.tmp 0), type := 63, pos := "slices.go:232", after := #[], guard := none }) (v := .slice (some ⟨g, 0, none⟩) n cap) rfl (by kernel_rfl) (by kernel_rfl) (by kernel_rfl) (by kernel_rfl) (fun _ _ _ h => h) (Or.inl ⟨by rfl, ?_⟩) hHeld ?_
    · intro w hSw
      first
        | rfl
        | (go_simp; done)
    try simp only [Act.put, List.setIfInBounds_toArray, List.set_cons_zero, List.set_cons_succ]
    refine wpAnyT_take (i := 4) (oi := { dst := some 24, op := Op.move (Operand.tmp 2), type := 3, pos := "slices.go:232", after := #[], guard := none }) (v := .int .i64 (k : Int)) rfl (by kernel_rfl) (by kernel_rfl) (by kernel_rfl) (by kernel_rfl) (fun _ _ _ h => h) (Or.inl ⟨by rfl, ?_⟩) hHeld ?_
    · intro w hSw
      first
        | rfl
        | (go_simp; done)
    try simp only [Act.put, List.setIfInBounds_toArray, List.set_cons_zero, List.set_cons_succ]
    refine wpAnyT_take (i := 5) (oi := { dst := some 25, op := Op.slice 63 (Operand.tmp 23) (some (Operand.tmp 24)) none none, type := 63, pos := "slices.go:232", after := #[{ on := 3, ground := Ground.data }, { on := 4, ground := Ground.data }], guard := none }) (v := .slice ax (n - k) (cap - k)) rfl (by kernel_rfl) (by kernel_rfl) (by kernel_rfl) (by kernel_rfl) (fun _ _ _ h => h) (Or.inl ⟨by rfl, ?_⟩) hHeld ?_
    · intro w hSw
      exact exec_slice1 63 (.tmp 23) (.tmp 24) rfl _ _ rfl rfl _ (unhide (HSL w))
    try simp only [Act.put, List.setIfInBounds_toArray, List.set_cons_zero, List.set_cons_succ]
    by_cases hkn : k = n
    · have hm : n - k = 0 := by omega
      have hx0 : xs.drop k = [] := List.drop_eq_nil_of_le (by rw [unhide HXL, hkn]; omega)
      refine wpAnyT_one (i := 6) (o := { dst := some 26, op := Op.call { callee := Callee.builtin Builtin.append, args := #[Operand.tmp 22, Operand.tmp 25], argTypes := #[63, 63] }, type := 63, pos := "slices.go:232", after := #[{ on := 2, ground := Ground.data }, { on := 5, ground := Ground.data }], guard := none }) (by kernel_rfl) rfl (fun K hK => ?_)
      rw [if_pos (by rfl)]
      refine step_app_none (Operand.tmp 22) (Operand.tmp 25) 63 32 rfl Tryd.underlying63 i0 hi0 _ 0 cap (cap - k) ax (n - k) hm (Nat.zero_le _) rfl rfl ?_
      refine hK.out _ _ (fun _ => trivial) ?_
      clear hK K
      try simp only [Act.put, List.setIfInBounds_toArray, List.set_cons_zero, List.set_cons_succ]
      have HN : Hid (RowAt wd g 32 (setL cs 0 (xs.drop k))) := hide (by rw [hx0]; exact unhide HROW)
      have HON : Hid (Only (fun i => (Value.slice (some ⟨g, 0, none⟩) n cap).ownBlock = some i) w wd) := HOD
      obtain ⟨wn, hwn⟩ : ∃ z, wd = z := ⟨_, rfl⟩
      rw [hwn] at HN HON ⊢
      have hz : 0 + (n - k) = n - k := by omega
      rw [hz]
      clear hwn hx0 hm hz HROW HOD
      refine wpAnyT_pure (i := 7) (oi := { dst := some 0, op := Op.assign (Operand.tmp 26), type := 63, pos := "slices.go:232", after := #[{ on := 6, ground := Ground.data }, { on := 6, ground := Ground.chain }, { on := 0, ground := Ground.phase }, { on := 1, ground := Ground.phase }, { on := 2, ground := Ground.phase }, { on := 3, ground := Ground.phase }, { on := 4, ground := Ground.phase }, { on := 5, ground := Ground.phase }, { on := 6, ground := Ground.phase }], guard := none }) (v := .slice (some ⟨g, 0, none⟩) (n - k) cap) rfl (by kernel_rfl) (by kernel_rfl) (by kernel_rfl) rfl (fun _ _ _ h => h) (Or.inl ⟨by rfl, ?_⟩) ?_
      · intro w hSw
        first
          | rfl
          | (go_simp; done)
      try simp only [Act.put, List.setIfInBounds_toArray, List.set_cons_zero, List.set_cons_succ]
      refine wpAnyT_done (by kernel_rfl) ?_ _
      obtain ⟨m, hm⟩ : ∃ m, n - k = m := ⟨_, rfl⟩
      have hmn : m + k = n := by omega
      rw [hm]
      have j1 : (0 : Int) ≤ (m : Int) := by omega
      have j2 : (m : Int) ≤ (n : Int) := by omega
      have j3 : ¬ cap = m := by omega
      have HL2 : Hid ((setL cs 0 (xs.drop k)).length = cap) := hide (by rw [setL_len]; exact unhide HLEN)
      have HT2 : Hid ((setL cs 0 (xs.drop k)).take m = xs.drop k) := hide (by
        have hl : (xs.drop k).length = m := by rw [List.length_drop, unhide HXL]; omega
        have := setL_here (xs.drop k) cs 0 (by rw [hl, unhide HLEN]; omega)
        rw [hl, Nat.zero_add] at this
        simpa using this)
      obtain ⟨c2, hc2⟩ : ∃ z, setL cs 0 (xs.drop k) = z := ⟨_, rfl⟩
      rw [hc2] at HN HL2 HT2
      have hcl : (Builtin.clear_ #[63] 0 #[.slice (some ⟨g, m, none⟩) (n - m) (cap - m)]).run Tryd.prog wn = .ok (.tuple #[]) (wn.setCells g m (zc (n - m))) := run_clear 0 c2 (unhide HN) (by omega) (by rw [unhide HL2]; omega)
      go_wp2_with fail
      go_ret
      refine ⟨_, rfl, by rw [hm]; exact row_pl (unhide HB) (RowAt.sets (zc (n - m)) c2 m wn (unhide HN)) (by omega) (unhide HMAX) (by rw [setL_len]; exact unhide HL2) (by rw [setL_take _ _ _ _ (by omega)]; exact unhide HT2), Only.sets (p := fun i => (Value.slice (some ⟨g, 0, none⟩) n cap).ownBlock = some i) rfl _ _ _ (unhide HON), fun i hi => hi⟩
    · have HRW := unhide HROW
      have hm : 0 < n - k := by omega
      have hck : ¬ cap = k := by omega
      rw [if_neg hck] at hax
      subst hax
      have HC : Hid (∀ j u, (xs.drop k)[j]? = some u → wd.cell? ((⟨g, k, none⟩ : Addr).add j) = some u) := hide (fun j u hj => by
        rw [add_plain, HRW.cell]
        rw [List.getElem?_drop] at hj
        rw [← unhide HTAKE] at hj
        rw [List.getElem?_take] at hj
        split at hj
        · exact hj
        · cases hj)
      have HL1 : Hid ((xs.drop k).length = (n - k) * 1) := hide (by rw [List.length_drop, unhide HXL]; omega)
      have HSP : Hid (∀ j, j < (xs.drop k).length → (wd.cell? ⟨g, 0 + 0 * 1 + j, none⟩).isSome = true ∧ wd.frozen? ⟨g, 0 + 0 * 1 + j, none⟩ = false) := hide (fun j hj => by
        rw [unhide HL1] at hj
        have := unhide HLEN
        rw [HRW.cell, HRW.frozen, List.getElem?_eq_getElem (by omega)]
        exact ⟨rfl, rfl⟩)
      refine wpAnyT_one (i := 6) (o := { dst := some 26, op := Op.call { callee := Callee.builtin Builtin.append, args := #[Operand.tmp 22, Operand.tmp 25], argTypes := #[63, 63] }, type := 63, pos := "slices.go:232", after := #[{ on := 2, ground := Ground.data }, { on := 5, ground := Ground.data }], guard := none }) (by kernel_rfl) rfl (fun K hK => ?_)
      refine step_append_room rfl (Operand.tmp 22) (Operand.tmp 25) 63 rfl 32 i0 1 Tryd.underlying63 hi0 hi4 g 0 0 cap rfl ⟨g, k, none⟩ (n - k) (cap - k) (xs.drop k) rfl (unhide HL1) (unhide HC) (fun u hu => unhide H1 u (List.mem_of_mem_drop hu)) (by omega) (unhide HSP) ?_
      refine hK.out _ _ (fun _ => trivial) ?_
      clear hK K
      try simp only [Act.put, List.setIfInBounds_toArray, List.set_cons_zero, List.set_cons_succ]
      have HN : Hid (RowAt (wd.setCells g 0 (xs.drop k)) g 32 (setL cs 0 (xs.drop k))) := hide (RowAt.sets _ _ _ _ HRW)
      have HON : Hid (Only (fun i => (Value.slice (some ⟨g, 0, none⟩) n cap).ownBlock = some i) w (wd.setCells g 0 (xs.drop k))) := hide (Only.sets (p := fun i => (Value.slice (some ⟨g, 0, none⟩) n cap).ownBlock = some i) rfl _ _ _ (unhide HOD))
      have hz : 0 + (n - k) = n - k := by omega
      rw [hz]
      have hz2 : 0 + 0 * 1 = 0 := rfl
      simp only [hz2]
      obtain ⟨wn, hwn⟩ : ∃ z, wd.setCells g 0 (xs.drop k) = z := ⟨_, rfl⟩
      rw [hwn] at HN HON ⊢
      clear hwn hz hz2 hm hck HRW HC HL1 HSP HROW HOD
      refine wpAnyT_pure (i := 7) (oi := { dst := some 0, op := Op.assign (Operand.tmp 26), type := 63, pos := "slices.go:232", after := #[{ on := 6, ground := Ground.data }, { on := 6, ground := Ground.chain }, { on := 0, ground := Ground.phase }, { on := 1, ground := Ground.phase }, { on := 2, ground := Ground.phase }, { on := 3, ground := Ground.phase }, { on := 4, ground := Ground.phase }, { on := 5, ground := Ground.phase }, { on := 6, ground := Ground.phase }], guard := none }) (v := .slice (some ⟨g, 0, none⟩) (n - k) cap) rfl (by kernel_rfl) (by kernel_rfl) (by kernel_rfl) rfl (fun _ _ _ h => h) (Or.inl ⟨by rfl, ?_⟩) ?_
      · intro w hSw
        first
          | rfl
          | (go_simp; done)
      try simp only [Act.put, List.setIfInBounds_toArray, List.set_cons_zero, List.set_cons_succ]
      refine wpAnyT_done (by kernel_rfl) ?_ _
      obtain ⟨m, hm⟩ : ∃ m, n - k = m := ⟨_, rfl⟩
      have hmn : m + k = n := by omega
      rw [hm]
      have j1 : (0 : Int) ≤ (m : Int) := by omega
      have j2 : (m : Int) ≤ (n : Int) := by omega
      have j3 : ¬ cap = m := by omega
      have HL2 : Hid ((setL cs 0 (xs.drop k)).length = cap) := hide (by rw [setL_len]; exact unhide HLEN)
      have HT2 : Hid ((setL cs 0 (xs.drop k)).take m = xs.drop k) := hide (by
        have hl : (xs.drop k).length = m := by rw [List.length_drop, unhide HXL]; omega
        have := setL_here (xs.drop k) cs 0 (by rw [hl, unhide HLEN]; omega)
        rw [hl, Nat.zero_add] at this
        simpa using this)
      obtain ⟨c2, hc2⟩ : ∃ z, setL cs 0 (xs.drop k) = z := ⟨_, rfl⟩
      rw [hc2] at HN HL2 HT2
      have hcl : (Builtin.clear_ #[63] 0 #[.slice (some ⟨g, m, none⟩) (n - m) (cap - m)]).run Tryd.prog wn = .ok (.tuple #[]) (wn.setCells g m (zc (n - m))) := run_clear 0 c2 (unhide HN) (by omega) (by rw [unhide HL2]; omega)
      go_wp2_with fail
      go_ret
      refine ⟨_, rfl, by rw [hm]; exact row_pl (unhide HB) (RowAt.sets (zc (n - m)) c2 m wn (unhide HN)) (by omega) (unhide HMAX) (by rw [setL_len]; exact unhide HL2) (by rw [setL_take _ _ _ _ (by omega)]; exact unhide HT2), Only.sets (p := fun i => (Value.slice (some ⟨g, 0, none⟩) n cap).ownBlock = some i) rfl _ _ _ (unhide HON), fun i hi => hi⟩
set_option maxRecDepth 100000 in
set_option maxHeartbeats 4000000 in
theorem del_last (w : World) (B m : Nat) (vq : Value) (xs : List Value) (h : w.ownsRow B 32 1 vq (m + 1) xs) (hn : m + 1 ≤ 1000) :
    Calls Tryd.prog 63 #[vq, .int .i64 (m : Int), .int .i64 ((m : Int) + 1)] w fun r w' => DelR w B m vq (xs.take m) r w' := by
  obtain ⟨g, cap, cs, rfl, hB, hrow, hcap, hmax, hlen, htake⟩ := pl_row h (by omega)
  have HROW := hide hrow.drew
  have HLEN := hide hlen
  have HTAKE := hide htake
  have HB := hide hB
  have HMAX := hide hmax
  have HXL := hide h.1
  obtain ⟨i0, hi0, -, hi4, -⟩ := infoPl
  clear h hrow hlen htake hB hmax
  have i1 : (0 : Int) ≤ (m : Int) := by omega
  have i2 : (m : Int) + 1 ≤ (cap : Int) := by omega
  have i5 : ((m : Int) == (m : Int) + 1) = false := by simp; omega
  have i6 : (m : Int) ≤ (cap : Int) := by omega
  have i7 : (m : Int) ≤ (m : Int) + 1 := by omega
  have i8 : (0 : Int) ≤ (m : Int) + 1 := by omega
  obtain ⟨n, hn1⟩ : ∃ n, m + 1 = n := ⟨_, rfl⟩
  have hnI : (m : Int) + 1 = (n : Int) := by omega
  rw [hn1] at hn hcap
  rw [hnI] at i2 i5 i7 i8 ⊢
  rw [hn1]
  go_enter Tryd.func63, Tryd.ntmps63
  go_wp2_with fail
  refine wp_region_T (S := fun _ => True) (fun i => decide (i < 7)) (by kernel_rfl) trivial (fun hHeld => ?_)
  obtain ⟨wd, hwd⟩ : ∃ z, w.drew = z := ⟨_, rfl⟩
  have HOD := hide (Only.drew (Only.refl (fun i => (Value.slice (some ⟨g, 0, none⟩) n cap).ownBlock = some i) w))
  rw [hwd] at HROW HOD ⊢
  clear hwd
  obtain ⟨ax, hax⟩ : ∃ z, (if cap = n then some (⟨g, 0, none⟩ : Addr) else some ⟨g, n, none⟩) = z := ⟨_, rfl⟩
  have HSL : ∀ w, Hid ((Instr.sliceAt 63 (.slice (some ⟨g, 0, none⟩) n cap) (some (.int .i64 (n : Int))) none none).run Tryd.prog w = .ok (.slice ax 0 (cap - n)) w) := by
    intro w
    have e1 : ((0 : Int) ≤ (n : Int) ∧ (n : Int) ≤ (cap : Int)) := by omega
    refine hide ?_
    rw [← hax]
    simp [Instr.sliceAt, run_underlying Tryd.underlying63, Instr.slice, Instr.sliceBounds, Instr.sliceBound, asIntOf, e1, e1.1, e1.2, hcap, run_size z32, Addr.add_lit]
  refine wpAnyT_take (i := 0) (oi := { dst := some 20, op := Op.move (Operand.tmp 0), type := 63, pos := "slices.go:232", after := #[], guard := none }) (v := .slice (some ⟨g, 0, none⟩) n cap) rfl (by kernel_rfl) (by kernel_rfl) (by kernel_rfl) (by kernel_rfl) (fun _ _ _ h => h) (Or.inl ⟨by rfl, ?_⟩) hHeld ?_
  · intro w hSw
    first
      | rfl
      | (go_simp; done)
  try simp only [Act.put, List.setIfInBounds_toArray, List.set_cons_zero, List.set_cons_succ]
  refine wpAnyT_take (i := 1) (oi := { dst := some 21, op := Op.move (Operand.tmp 1), type := 3, pos := "slices.go:232", after := #[], guard := none }) (v := .int .i64 (m : Int)) rfl (by kernel_rfl) (by kernel_rfl) (by kernel_rfl) (by kernel_rfl) (fun _ _ _ h => h) (Or.inl ⟨by rfl, ?_⟩) hHeld ?_
  · intro w hSw
    first
      | rfl
      | (go_simp; done)
  try simp only [Act.put, List.setIfInBounds_toArray, List.set_cons_zero, List.set_cons_succ]
  refine wpAnyT_take (i := 2) (oi := { dst := some 22, op := Op.slice 63 (Operand.tmp 20) none (some (Operand.tmp 21)) none, type := 63, pos := "slices.go:232", after := #[{ on := 0, ground := Ground.data }, { on := 1, ground := Ground.data }], guard := none }) (v := .slice (some ⟨g, 0, none⟩) m cap) rfl (by kernel_rfl) (by kernel_rfl) (by kernel_rfl) (by kernel_rfl) (fun _ _ _ h => h) (Or.inl ⟨by rfl, ?_⟩) hHeld ?_
  · intro w hSw
    first
      | rfl
      | (go_simp; done)
  try simp only [Act.put, List.setIfInBounds_toArray, List.set_cons_zero, List.set_cons_succ]
  refine wpAnyT_take (i := 3) (oi := { dst := some 23, op := Op.move (Operand.tmp 0), type := 63, pos := "slices.go:232", after := #[], guard := none }) (v := .slice (some ⟨g, 0, none⟩) n cap) rfl (by kernel_rfl) (by kernel_rfl) (by kernel_rfl) (by kernel_rfl) (fun _ _ _ h => h) (Or.inl ⟨by rfl, ?_⟩) hHeld ?_
  · intro w hSw
    first
      | rfl
      | (go_simp; done)
  try simp only [Act.put, List.setIfInBounds_toArray, List.set_cons_zero, List.set_cons_succ]
  refine wpAnyT_take (i := 4) (oi := { dst := some 24, op := Op.move (Operand.tmp 2), type := 3, pos := "slices.go:232", after := #[], guard := none }) (v := .int .i64 (n : Int)) rfl (by kernel_rfl) (by kernel_rfl) (by kernel_rfl) (by kernel_rfl) (fun _ _ _ h => h) (Or.inl ⟨by rfl, ?_⟩) hHeld ?_
  · intro w hSw
    first
      | rfl
      | (go_simp; done)
  try simp only [Act.put, List.setIfInBounds_toArray, List.set_cons_zero, List.set_cons_succ]
  refine wpAnyT_take (i := 5) (oi := { dst := some 25, op := Op.slice 63 (Operand.tmp 23) (some (Operand.tmp 24)) none none, type := 63, pos := "slices.go:232", after := #[{ on := 3, ground := Ground.data }, { on := 4, ground := Ground.data }], guard := none }) (v := .slice ax 0 (cap - n)) rfl (by kernel_rfl) (by kernel_rfl) (by kernel_rfl) (by kernel_rfl) (fun _ _ _ h => h) (Or.inl ⟨by rfl, ?_⟩) hHeld ?_
  · intro w hSw
    exact exec_slice1 63 (.tmp 23) (.tmp 24) rfl _ _ rfl rfl _ (unhide (HSL w))
  try simp only [Act.put, List.setIfInBounds_toArray, List.set_cons_zero, List.set_cons_succ]
  refine wpAnyT_one (i := 6) (o := { dst := some 26, op := Op.call { callee := Callee.builtin Builtin.append, args := #[Operand.tmp 22, Operand.tmp 25], argTypes := #[63, 63] }, type := 63, pos := "slices.go:232", after := #[{ on := 2, ground := Ground.data }, { on := 5, ground := Ground.data }], guard := none }) (by kernel_rfl) rfl (fun K hK => ?_)
  rw [if_pos (by rfl)]
  refine step_app_none (Operand.tmp 22) (Operand.tmp 25) 63 32 rfl Tryd.underlying63 i0 hi0 _ m cap (cap - n) ax 0 rfl (by omega) rfl rfl ?_
  refine hK.out _ _ (fun _ => trivial) ?_
  clear hK K
  rw [Nat.add_zero]
  try simp only [Act.put, List.setIfInBounds_toArray, List.set_cons_zero, List.set_cons_succ]
  refine wpAnyT_pure (i := 7) (oi := { dst := some 0, op := Op.assign (Operand.tmp 26), type := 63, pos := "slices.go:232", after := #[{ on := 6, ground := Ground.data }, { on := 6, ground := Ground.chain }, { on := 0, ground := Ground.phase }, { on := 1, ground := Ground.phase }, { on := 2, ground := Ground.phase }, { on := 3, ground := Ground.phase }, { on := 4, ground := Ground.phase }, { on := 5, ground := Ground.phase }, { on := 6, ground := Ground.phase }], guard := none }) (v := .slice (some ⟨g, 0, none⟩) m cap) rfl (by kernel_rfl) (by kernel_rfl) (by kernel_rfl) rfl (fun _ _ _ h => h) (Or.inl ⟨by rfl, ?_⟩) ?_
  · intro w hSw
    first
      | rfl
      | (go_simp; done)
  try simp only [Act.put, List.setIfInBounds_toArray, List.set_cons_zero, List.set_cons_succ]
  refine wpAnyT_done (by kernel_rfl) ?_ _
  have j3 : ¬ cap = m := by omega
  have HT2 : Hid (cs.take m = xs.take m) := hide (by rw [← unhide HTAKE, List.take_take]; congr 1; omega)
  have hcl : (Builtin.clear_ #[63] 0 #[.slice (some ⟨g, m, none⟩) (n - m) (cap - m)]).run Tryd.prog wd = .ok (.tuple #[]) (wd.setCells g m (zc (n - m))) := run_clear 0 cs (unhide HROW) (by omega) (by rw [unhide HLEN]; omega)
  go_wp2_with fail
  go_ret
  refine ⟨_, rfl, row_pl (unhide HB) (RowAt.sets (zc (n - m)) cs m wd (unhide HROW)) (by omega) (unhide HMAX) (by rw [setL_len]; exact unhide HLEN) (by rw [setL_take _ _ _ _ (by omega)]; exact unhide HT2), Only.sets (p := fun i => (Value.slice (some ⟨g, 0, none⟩) n cap).ownBlock = some i) rfl _ _ _ (unhide HOD), fun i hi => hi⟩
end Go.Proofs.YtihiengejpjbkaaDoor
