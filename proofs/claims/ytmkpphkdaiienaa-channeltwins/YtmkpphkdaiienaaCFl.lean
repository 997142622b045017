/- Lists of frames: slices.Clone, slices.Delete of one. -/
import Derived.Test.YtmkpphkdaiienaaCPm
namespace Go.Proofs.Ytmkpphkdaiienaa
set_option linter.unusedVariables false
set_option linter.unusedSimpArgs false
open Go.ChangeShapes Go.WideShapes Go.ChangeAt Go.RowKit Go.Joins Go.Deep

theorem fcs_len (q : List Fm) : (fcs q).length = q.length * 4 := by
  induction q with
  | nil => rfl
  | cons p r ih => simp only [fcs, List.flatMap_cons, List.length_append] at *; rw [ih]; simp [Fm.cs]; omega
theorem fcs_take (q : List Fm) (i : Nat) : (fcs q).take (i * 4) = fcs (q.take i) := by
  induction i generalizing q with
  | zero => simp [fcs]
  | succ n ih =>
    cases q with
    | nil => simp [fcs]
    | cons x r =>
      rw [List.take_succ_cons]
      simp only [fcs, List.flatMap_cons]
      rw [show (n + 1) * 4 = x.cs.length + n * 4 by simp [Fm.cs]; omega, List.take_length_add_append]
      congr 1
      exact ih r
theorem fcs_drop (q : List Fm) (i : Nat) : (fcs q).drop (i * 4) = fcs (q.drop i) := by
  induction i generalizing q with
  | zero => simp
  | succ n ih =>
    cases q with
    | nil => simp [fcs]
    | cons x r =>
      rw [List.drop_succ_cons, ← ih r]
      simp only [fcs, List.flatMap_cons]
      rw [show (n + 1) * 4 = x.cs.length + n * 4 by simp [Fm.cs]; omega, List.drop_append, List.drop_eq_nil_of_le (by omega), List.nil_append, Nat.add_sub_cancel_left]
theorem fcs_one {q : List Fm} (h : ∀ p ∈ q, p.v.oneCell' = true) : ∀ u ∈ fcs q, u.oneCell' = true := by
  intro u hu
  simp only [fcs, List.mem_flatMap] at hu
  obtain ⟨p, hp, hu⟩ := hu
  simp only [Fm.cs, List.mem_cons, List.not_mem_nil, or_false] at hu
  rcases hu with rfl | rfl | rfl | rfl
  · rfl
  · rfl
  · rfl
  · exact h p hp
set_option maxHeartbeats 1000000 in
theorem fclone_any (v : Value) (n B : Nat) (xs : List Value) (w : World) (hv : w.ownsRow B 34 4 v n xs) (hl : n ≤ 1000000) (h1 : ∀ u ∈ xs, u.oneCell' = true) :
    Calls Try.prog 51 #[v] w fun e w' => ∃ v', e = .returned v' ∧ w'.ownsRow w.heap.size 34 4 v' n xs ∧ Below w.heap.size w w' := by
  obtain ⟨i0, hi, hz0, hz1, hz2⟩ := info_parts infoFr
  rcases hv.2 with ⟨rfl, rfl⟩ | ⟨g, cap, cur, rfl, hB0, hrow, hcap, hmax, hsz, htk⟩
  · have hq := fun W => Go.run_eql_slice_nil (P := Try.prog) W 48 34 none 0 0 Try.underlying48
    have hx : xs = [] := List.eq_nil_of_length_eq_zero (by have := hv.1; omega)
    subst hx
    clear hv h1
    go_enter Try.func51, Try.ntmps51
    go_wp2
    go_ret
    exact ⟨_, rfl, ⟨rfl, .inl ⟨rfl, rfl⟩⟩, Below.refl _ _⟩
  · have hq := fun W => Go.run_eql_slice_nil (P := Try.prog) W 48 34 (some ⟨g, 0, none⟩) n cap Try.underlying48
    have hB : Below w.heap.size w (w.alloc (.cells #[] 34)) := (Below.refl _ _).alloc (Nat.le_refl _) _
    have hr : RowAt w g 34 cur.toList := hrow
    have HXL := hide hv.1
    have HN : Hid (∀ j u, xs[j]? = some u → w.cell? ((⟨g, 0, none⟩ : Addr).add j) = some u) := hide (fun j u hj => by
      rw [add_plain, Nat.zero_add, hr.cell]
      have hlt : j < xs.length := (List.getElem?_eq_some_iff.1 hj).1
      rw [← hj, ← htk, List.getElem?_take_of_lt (by have := hv.1; omega)])
    have H1 := hide h1
    clear hv h1 hrow hr hsz htk hB0 hmax
    have hown : (w.alloc (.cells #[] 34)).ownsRow w.heap.size 34 4 (.slice (some ⟨w.heap.size, 0, none⟩) 0 0) 0 [] := World.ownsRow_made w #[] 0 (Nat.le_refl _) (Nat.zero_le _) rfl
    go_enter Try.func51, Try.ntmps51
    go_wp2_with (at_builtin; refine wpList_append_own _ rfl _ _ 48 rfl w.heap.size 34 i0 (.agg #[.int .i64 0, .int .i64 0, .int .i64 0, .slice none 0 0]) 4 48 Try.underlying48 hi hz0 hz1 hz2 rfl (by decide) _ _ _ rfl hown ⟨g, 0, none⟩ n cap xs rfl ?c0 ?c1 ?c2 ?c3 ?c4 ?c5 ?_)
    case c0 => exact unhide HXL
    case c1 =>
      intro j u hj
      have := unhide HN j u hj
      exact cell_keep hB (lt_of_cell this) this
    case c2 => exact unhide H1
    case c3 => unfold maxLen; omega
    case c4 => omega
    case c5 => simp
    intro v' w2 hown' hgrow' _
    go_wp2
    go_ret
    refine ⟨_, rfl, ?_, ?_⟩
    · simpa using hown'
    · exact hB.grown hgrow' hB.size (fun k hk => by simp [Value.ownBlock] at hk; omega)
theorem fown_row {w : World} {B n : Nat} {v : Value} {xs : List Value} (h : w.ownsRow B 34 4 v n xs) (hn : 0 < n) : ∃ g cap cs, v = .slice (some ⟨g, 0, none⟩) n cap ∧ B ≤ g ∧ RowAt w g 34 cs ∧ n ≤ cap ∧ cap ≤ maxLen ∧ cs.length = cap * 4 ∧ cs.take (n * 4) = xs := by
  rcases h.2 with ⟨_, h0⟩ | ⟨g, cap, cur, rfl, h1, h2, h3, h4, h5, h6⟩
  · omega
  · exact ⟨g, cap, cur.toList, rfl, h1, h2, h3, h4, by simpa using h5, h6⟩
theorem frow_own {w : World} {B n g cap : Nat} {cs xs : List Value} (h1 : B ≤ g) (h : RowAt w g 34 cs) (h2 : n ≤ cap) (h3 : cap ≤ maxLen) (h4 : cs.length = cap * 4) (h5 : cs.take (n * 4) = xs) : w.ownsRow B 34 4 (.slice (some ⟨g, 0, none⟩) n cap) n xs := by
  refine ⟨?_, .inr ⟨g, cap, cs.toArray, rfl, h1, h, h2, h3, by simpa using h4, by simpa using h5⟩⟩
  rw [← h5, List.length_take]
  omega
theorem zero34 (w : World) : (zeroValue 34).run Try.prog w = .ok (.agg #[.int .i64 0, .int .i64 0, .int .i64 0, .slice none 0 0]) w := by kernel_rfl
def zcf (k : Nat) : List Value := (Builtin.zeroCells #[.int .i64 0, .int .i64 0, .int .i64 0, .slice none 0 0] k).toList
theorem zcf_len (k : Nat) : (zcf k).length = k * 4 := by simp [zcf, Builtin.zeroCells]
theorem zcf_one (k : Nat) : ∀ u ∈ zcf k, u.oneCell' = true := by
  intro u hu
  simp only [zcf, Builtin.zeroCells, Array.toList_map, List.mem_map] at hu
  obtain ⟨i, _, rfl⟩ := hu
  have : i % 4 < 4 := Nat.mod_lt _ (by decide)
  show (#[Value.int .i64 0, .int .i64 0, .int .i64 0, .slice none 0 0][i % 4]!).oneCell' = true
  rcases (show i % 4 = 0 ∨ i % 4 = 1 ∨ i % 4 = 2 ∨ i % 4 = 3 by omega) with h | h | h | h <;> rw [h] <;> rfl
theorem frun_clear {w : World} {g o k c : Nat} (ty : TypeId) (cs : List Value) (h : RowAt w g 34 cs) (hk : 0 < k) (hl : o + k * 4 ≤ cs.length) :
    (Builtin.clear_ #[48] ty #[.slice (some ⟨g, o, none⟩) k c]).run Try.prog w = .ok (.tuple #[]) (w.setCells g o (zcf k)) := by
  have hst := run_storeCells_cells (P := Try.prog) g o (zcf k) 0 w (fun j hj => by
    rw [zcf_len] at hj
    rw [h.cell, List.getElem?_eq_getElem (by omega)]
    rfl) (fun j hj => h.frozen _) (zcf_one k)
  simp only [Nat.add_zero] at hst
  obtain ⟨m, rfl⟩ : ∃ m, k = m + 1 := ⟨k - 1, by omega⟩
  simp only [Builtin.clear_]
  simp [run_underlying Try.underlying48, zero34, zcf] at hst ⊢
  simp [Value.cells, hst]
theorem infoF4 : ∃ i, Try.prog.info? 34 = some i ∧ i.size = 4 := by
  obtain ⟨i, h1, _, h2, _⟩ := info_parts infoFr
  exact ⟨i, h1, h2⟩
theorem z34 : (Try.prog.info? 34).map (·.size) = some 4 := by kernel_rfl
theorem step_app_nil {P : Program} {o : Oper} {a : Act} {w : World} {K : Act → World → Prop} {Q : Exit → Act → World → Prop} (s x : Operand) (t e : TypeId) (hop : o.op = Op.call { callee := Callee.builtin Builtin.append, args := #[s, x], argTypes := #[t, t] })
    (h1 : P.underlying t = some (.slice e)) (i : TypeInfo) (h2 : P.info? e = some i) (b : Addr) (li cap c : Nat) (ax : Option Addr) (m : Nat) (hm : m = 0) (hli : li ≤ cap) (hs : a.eval s = .slice (some b) li cap) (hx : a.eval x = .slice ax m c)
    (hK : K (a.put o.dst (.slice (some b) (li + m) cap)) w) : Oper.wp P o a w K Q := by
  subst hm
  have hrun : (Builtin.append_ #[t, t] o.type #[.slice (some b) li cap, .slice ax 0 c]).run P w = .ok (.slice (some b) li cap) w := by
    cases ax <;> simp [Builtin.append_, run_underlying h1, sizeOf, typeInfo, h2, Builtin.lenOf, Builtin.firstCells, loadCells, loadCellsFrom, storeCells, hli]
  unfold Oper.wp
  simp [execOp, hop, resolve, invoke, builtin, hs, hx, hrun, Result.andThen]
  exact hK
def DelF (w : World) (B n i : Nat) (v : Value) (xs : List Value) (r : Ending) (w' : World) : Prop :=
  ∃ v', r = .returned v' ∧ w'.ownsRow B 34 4 v' (n - 1) (xs.take (i * 4) ++ xs.drop ((i + 1) * 4)) ∧ Only (fun i => v.ownBlock = some i) w w' ∧ ∀ i, v'.ownBlock = some i → v.ownBlock = some i
set_option maxRecDepth 100000 in
set_option maxHeartbeats 4000000 in
theorem fdel_any (w : World) (B n i k : Nat) (v : Value) (xs : List Value) (h : w.ownsRow B 34 4 v n xs) (hi : i < n) (hki : k = i + 1) (hn : n ≤ 1000000) (h1 : ∀ u ∈ xs, u.oneCell' = true) :
    Calls Try.prog 50 #[v, .int .i64 (i : Int), .int .i64 (k : Int)] w fun r w' => DelF w B n i v xs r w' := by
  have hn0 : 0 < n := by omega
  obtain ⟨g, cap, cs, rfl, hB, hrow, hcap, hmax, hlen, htake⟩ := fown_row h hn0
  have HROW := hide hrow.drew
  have HLEN := hide hlen
  have HTAKE := hide htake
  have HB := hide hB
  have HMAX := hide hmax
  have HXL := hide h.1
  have H1 := hide h1
  obtain ⟨i0, hi0, hi4⟩ := infoF4
  clear h h1 hrow hlen htake hB hmax
  have i1 : (0 : Int) ≤ (n : Int) := by omega
  have i2 : (n : Int) ≤ (cap : Int) := by omega
  have i3 : (k : Int) ≤ (n : Int) := by omega
  have i4 : (0 : Int) ≤ (k : Int) := by omega
  have i5 : ((i : Int) == (k : Int)) = false := by simp; omega
  have i6 : (k : Int) ≤ (cap : Int) := by omega
  have i7 : (0 : Int) ≤ (i : Int) := by omega
  have i8 : (i : Int) ≤ (k : Int) := by omega
  have i9 : (i : Int) ≤ (cap : Int) := by omega
  have i10 : (i : Int) ≤ (n : Int) := by omega
  have hk : k ≤ n := by omega
  go_enter Try.func50, Try.ntmps50
  go_wp2_with fail
  refine wp_region_T (S := fun _ => True) (fun i => decide (i < 7)) (by kernel_rfl) trivial (fun hHeld => ?_)
  obtain ⟨wd, hwd⟩ : ∃ z, w.drew = z := ⟨_, rfl⟩
  have HOD := hide (Only.drew (Only.refl (fun i => (Value.slice (some ⟨g, 0, none⟩) n cap).ownBlock = some i) w))
  rw [hwd] at HROW HOD ⊢
  clear hwd
  obtain ⟨ax, hax⟩ : ∃ z, (if cap = k then some (⟨g, 0, none⟩ : Addr) else some ⟨g, k * 4, none⟩) = z := ⟨_, rfl⟩
  have HSL : ∀ w, Hid ((Instr.sliceAt 48 (.slice (some ⟨g, 0, none⟩) n cap) (some (.int .i64 (k : Int))) none none).run Try.prog w = .ok (.slice ax (n - k) (cap - k)) w) := by
    intro w
    have e1 : ((0 : Int) ≤ (n : Int) ∧ (n : Int) ≤ (cap : Int)) := by omega
    have e3 : ((0 : Int) ≤ (k : Int) ∧ (k : Int) ≤ (n : Int)) := by omega
    refine hide ?_
    rw [← hax]
    simp [Instr.sliceAt, run_underlying Try.underlying48, Instr.slice, Instr.sliceBounds, Instr.sliceBound, asIntOf, e1, e1.1, e1.2, e3, e3.1, e3.2, hk, hcap, run_size z34, Addr.add_lit]
  refine wpAnyT_take (i := 0) (oi := { dst := some 20, op := Op.move (Operand.tmp 0), type := 48, pos := "slices.go:232", after := #[], guard := none }) (v := .slice (some ⟨g, 0, none⟩) n cap) rfl (by kernel_rfl) (by kernel_rfl) (by kernel_rfl) (by kernel_rfl) (fun _ _ _ h => h) (Or.inl ⟨by rfl, ?_⟩) hHeld ?_
  · intro w hSw
    first
      | rfl
      | (go_simp; done)
  try simp only [Act.put, List.setIfInBounds_toArray, List.set_cons_zero, List.set_cons_succ]
  refine wpAnyT_take (i := 1) (oi := { dst := some 21, op := Op.move (Operand.tmp 1), type := 3, pos := "slices.go:232", after := #[], guard := none }) (v := .int .i64 (i : Int)) rfl (by kernel_rfl) (by kernel_rfl) (by kernel_rfl) (by kernel_rfl) (fun _ _ _ h => h) (Or.inl ⟨by rfl, ?_⟩) hHeld ?_
  · intro w hSw
    first
      | rfl
      | (go_simp; done)
  try simp only [Act.put, List.setIfInBounds_toArray, List.set_cons_zero, List.set_cons_succ]
  refine wpAnyT_take (i := 2) (oi := { dst := some 22, op := Op.slice 48 (Operand.tmp 20) none (some (Operand.tmp 21)) none, type := 48, pos := "slices.go:232", after := #[{ on := 0, ground := Ground.data }, { on := 1, ground := Ground.data }], guard := none }) (v := .slice (some ⟨g, 0, none⟩) i cap) rfl (by kernel_rfl) (by kernel_rfl) (by kernel_rfl) (by kernel_rfl) (fun _ _ _ h => h) (Or.inl ⟨by rfl, ?_⟩) hHeld ?_
  · intro w hSw
    first
      | rfl
      | (go_simp; done)
  try simp only [Act.put, List.setIfInBounds_toArray, List.set_cons_zero, List.set_cons_succ]
  refine wpAnyT_take (i := 3) (oi := { dst := some 23, op := Op.move (Operand.tmp 0), type := 48, pos := "slices.go:232", after := #[], guard := none }) (v := .slice (some ⟨g, 0, none⟩) n cap) rfl (by kernel_rfl) (by kernel_rfl) (by kernel_rfl) (by kernel_rfl) (fun _ _ _ h => h) (Or.inl ⟨by rfl, ?_⟩) hHeld ?_
  · intro w hSw
    first
      | rfl
      | (go_simp; done)
  try simp only [Act.put, List.setIfInBounds_toArray, List.set_cons_zero, List.set_cons_succ]
  refine wpAnyT_take (i := 4) (oi := { dst := some 24, op := Op.move (Operand.tmp 2), type := 3, pos := "slices.go:232", after := #[], guard := none }) (v := .int .i64 (k : Int)) rfl (by kernel_rfl) (by kernel_rfl) (by kernel_rfl) (by kernel_rfl) (fun _ _ _ h => h) (Or.inl ⟨by rfl, ?_⟩) hHeld ?_
  · intro w hSw
    first
      | rfl
      | (go_simp; done)
  try simp only [Act.put, List.setIfInBounds_toArray, List.set_cons_zero, List.set_cons_succ]
  refine wpAnyT_take (i := 5) (oi := { dst := some 25, op := Op.slice 48 (Operand.tmp 23) (some (Operand.tmp 24)) none none, type := 48, pos := "slices.go:232", after := #[{ on := 3, ground := Ground.data }, { on := 4, ground := Ground.data }], guard := none }) (v := .slice ax (n - k) (cap - k)) rfl (by kernel_rfl) (by kernel_rfl) (by kernel_rfl) (by kernel_rfl) (fun _ _ _ h => h) (Or.inl ⟨by rfl, ?_⟩) hHeld ?_
  · intro w hSw
    exact exec_slice1 48 (.tmp 23) (.tmp 24) rfl _ _ rfl rfl _ (unhide (HSL w))
  try simp only [Act.put, List.setIfInBounds_toArray, List.set_cons_zero, List.set_cons_succ]
  by_cases hkn : k = n
  · have hm : n - k = 0 := by omega
    have hx0 : xs.drop (k * 4) = [] := List.drop_eq_nil_of_le (by rw [unhide HXL, hkn]; omega)
    refine wpAnyT_one (i := 6) (o := { dst := some 26, op := Op.call { callee := Callee.builtin Builtin.append, args := #[Operand.tmp 22, Operand.tmp 25], argTypes := #[48, 48] }, type := 48, pos := "slices.go:232", after := #[{ on := 2, ground := Ground.data }, { on := 5, ground := Ground.data }], guard := none }) (by kernel_rfl) rfl (fun K hK => ?_)
    rw [if_pos (by rfl)]
    refine step_app_nil (Operand.tmp 22) (Operand.tmp 25) 48 34 rfl Try.underlying48 i0 hi0 _ i cap (cap - k) ax (n - k) hm (by omega) rfl rfl ?_
    refine hK.out _ _ (fun _ => trivial) ?_
    clear hK K
    try simp only [Act.put, List.setIfInBounds_toArray, List.set_cons_zero, List.set_cons_succ]
    have HN : Hid (RowAt wd g 34 (setL cs (i * 4) (xs.drop (k * 4)))) := hide (by rw [hx0]; exact unhide HROW)
    have HON : Hid (Only (fun i => (Value.slice (some ⟨g, 0, none⟩) n cap).ownBlock = some i) w wd) := HOD
    obtain ⟨wn, hwn⟩ : ∃ z, wd = z := ⟨_, rfl⟩
    rw [hwn] at HN HON ⊢
    clear hwn hx0 hm HROW HOD
    refine wpAnyT_pure (i := 7) (oi := { dst := some 0, op := Op.assign (Operand.tmp 26), type := 48, pos := "slices.go:232", after := #[{ on := 6, ground := Ground.data }, { on := 6, ground := Ground.chain }, { on := 0, ground := Ground.phase }, { on := 1, ground := Ground.phase }, { on := 2, ground := Ground.phase }, { on := 3, ground := Ground.phase }, { on := 4, ground := Ground.phase }, { on := 5, ground := Ground.phase }, { on := 6, ground := Ground.phase }], guard := none }) (v := .slice (some ⟨g, 0, none⟩) (i + (n - k)) cap) rfl (by kernel_rfl) (by kernel_rfl) (by kernel_rfl) rfl (fun _ _ _ h => h) (Or.inl ⟨by rfl, ?_⟩) ?_
    · intro w hSw
      first
        | rfl
        | (go_simp; done)
    try simp only [Act.put, List.setIfInBounds_toArray, List.set_cons_zero, List.set_cons_succ]
    refine wpAnyT_done (by kernel_rfl) ?_ _
    obtain ⟨m, hm9⟩ : ∃ m, i + (n - k) = m := ⟨_, rfl⟩
    have hmn : m + 1 = n := by omega
    rw [hm9]
    have j1 : (0 : Int) ≤ (m : Int) := by omega
    have j2 : (m : Int) ≤ (n : Int) := by omega
    have j3 : ¬ cap = m := by omega
    have HL2 : Hid ((setL cs (i * 4) (xs.drop (k * 4))).length = cap * 4) := hide (by rw [setL_len]; exact unhide HLEN)
    have HT2 : Hid ((setL cs (i * 4) (xs.drop (k * 4))).take (m * 4) = xs.take (i * 4) ++ xs.drop (k * 4)) := hide (by
      have hl : (xs.drop (k * 4)).length = (n - k) * 4 := by rw [List.length_drop, unhide HXL]; omega
      have := setL_here (xs.drop (k * 4)) cs (i * 4) (by rw [hl, unhide HLEN]; omega)
      rw [hl, show i * 4 + (n - k) * 4 = m * 4 by omega] at this
      rw [this, ← unhide HTAKE, List.take_take, Nat.min_eq_left (by omega)])
    obtain ⟨c2, hc2⟩ : ∃ z, setL cs (i * 4) (xs.drop (k * 4)) = z := ⟨_, rfl⟩
    rw [hc2] at HN HL2 HT2
    have hcl : (Builtin.clear_ #[48] 0 #[.slice (some ⟨g, m * 4, none⟩) (n - m) (cap - m)]).run Try.prog wn = .ok (.tuple #[]) (wn.setCells g (m * 4) (zcf (n - m))) := frun_clear 0 c2 (unhide HN) (by omega) (by rw [unhide HL2]; omega)
    go_wp2_with fail
    go_ret
    refine ⟨_, rfl, by rw [show n - 1 = m by omega, ← hki]; exact frow_own (unhide HB) (RowAt.sets (zcf (n - m)) c2 (m * 4) wn (unhide HN)) (by omega) (unhide HMAX) (by rw [setL_len]; exact unhide HL2) (by rw [setL_take _ _ _ _ (by omega)]; exact unhide HT2), Only.sets (p := fun i => (Value.slice (some ⟨g, 0, none⟩) n cap).ownBlock = some i) rfl _ _ _ (unhide HON), fun i hi => hi⟩
  · have HRW := unhide HROW
    have hm : 0 < n - k := by omega
    have hck : ¬ cap = k := by omega
    rw [if_neg hck] at hax
    subst hax
    have HC : Hid (∀ j u, (xs.drop (k * 4))[j]? = some u → wd.cell? ((⟨g, k * 4, none⟩ : Addr).add j) = some u) := hide (fun j u hj => by
      rw [add_plain, HRW.cell]
      rw [List.getElem?_drop] at hj
      rw [← unhide HTAKE] at hj
      rw [List.getElem?_take] at hj
      split at hj
      · exact hj
      · cases hj)
    have HL1 : Hid ((xs.drop (k * 4)).length = (n - k) * 4) := hide (by rw [List.length_drop, unhide HXL]; omega)
    have HSP : Hid (∀ j, j < (xs.drop (k * 4)).length → (wd.cell? ⟨g, 0 + i * 4 + j, none⟩).isSome = true ∧ wd.frozen? ⟨g, 0 + i * 4 + j, none⟩ = false) := hide (fun j hj => by
      rw [unhide HL1] at hj
      have := unhide HLEN
      rw [HRW.cell, HRW.frozen, List.getElem?_eq_getElem (by omega)]
      exact ⟨rfl, rfl⟩)
    refine wpAnyT_one (i := 6) (o := { dst := some 26, op := Op.call { callee := Callee.builtin Builtin.append, args := #[Operand.tmp 22, Operand.tmp 25], argTypes := #[48, 48] }, type := 48, pos := "slices.go:232", after := #[{ on := 2, ground := Ground.data }, { on := 5, ground := Ground.data }], guard := none }) (by kernel_rfl) rfl (fun K hK => ?_)
    refine step_append_room rfl (Operand.tmp 22) (Operand.tmp 25) 48 rfl 34 i0 4 Try.underlying48 hi0 hi4 g 0 i cap rfl ⟨g, k * 4, none⟩ (n - k) (cap - k) (xs.drop (k * 4)) rfl (unhide HL1) (unhide HC) (fun u hu => unhide H1 u (List.mem_of_mem_drop hu)) (by omega) (unhide HSP) ?_
    refine hK.out _ _ (fun _ => trivial) ?_
    clear hK K
    try simp only [Act.put, List.setIfInBounds_toArray, List.set_cons_zero, List.set_cons_succ]
    have HN : Hid (RowAt (wd.setCells g (0 + i * 4) (xs.drop (k * 4))) g 34 (setL cs (i * 4) (xs.drop (k * 4)))) := hide (by rw [Nat.zero_add]; exact RowAt.sets _ _ _ _ HRW)
    have HON : Hid (Only (fun i => (Value.slice (some ⟨g, 0, none⟩) n cap).ownBlock = some i) w (wd.setCells g (0 + i * 4) (xs.drop (k * 4)))) := hide (Only.sets (p := fun i => (Value.slice (some ⟨g, 0, none⟩) n cap).ownBlock = some i) rfl _ _ _ (unhide HOD))
    obtain ⟨wn, hwn⟩ : ∃ z, wd.setCells g (0 + i * 4) (xs.drop (k * 4)) = z := ⟨_, rfl⟩
    rw [hwn] at HN HON ⊢
    clear hwn hm hck HRW HC HL1 HSP HROW HOD
    refine wpAnyT_pure (i := 7) (oi := { dst := some 0, op := Op.assign (Operand.tmp 26), type := 48, pos := "slices.go:232", after := #[{ on := 6, ground := Ground.data }, { on := 6, ground := Ground.chain }, { on := 0, ground := Ground.phase }, { on := 1, ground := Ground.phase }, { on := 2, ground := Ground.phase }, { on := 3, ground := Ground.phase }, { on := 4, ground := Ground.phase }, { on := 5, ground := Ground.phase }, { on := 6, ground := Ground.phase }], guard := none }) (v := .slice (some ⟨g, 0, none⟩) (i + (n - k)) cap) rfl (by kernel_rfl) (by kernel_rfl) (by kernel_rfl) rfl (fun _ _ _ h => h) (Or.inl ⟨by rfl, ?_⟩) ?_
    · intro w hSw
      first
        | rfl
        | (go_simp; done)
    try simp only [Act.put, List.setIfInBounds_toArray, List.set_cons_zero, List.set_cons_succ]
    refine wpAnyT_done (by kernel_rfl) ?_ _
    obtain ⟨m, hm9⟩ : ∃ m, i + (n - k) = m := ⟨_, rfl⟩
    have hmn : m + 1 = n := by omega
    rw [hm9]
    have j1 : (0 : Int) ≤ (m : Int) := by omega
    have j2 : (m : Int) ≤ (n : Int) := by omega
    have j3 : ¬ cap = m := by omega
    have HL2 : Hid ((setL cs (i * 4) (xs.drop (k * 4))).length = cap * 4) := hide (by rw [setL_len]; exact unhide HLEN)
    have HT2 : Hid ((setL cs (i * 4) (xs.drop (k * 4))).take (m * 4) = xs.take (i * 4) ++ xs.drop (k * 4)) := hide (by
      have hl : (xs.drop (k * 4)).length = (n - k) * 4 := by rw [List.length_drop, unhide HXL]; omega
      have := setL_here (xs.drop (k * 4)) cs (i * 4) (by rw [hl, unhide HLEN]; omega)
      rw [hl, show i * 4 + (n - k) * 4 = m * 4 by omega] at this
      rw [this, ← unhide HTAKE, List.take_take, Nat.min_eq_left (by omega)])
    obtain ⟨c2, hc2⟩ : ∃ z, setL cs (i * 4) (xs.drop (k * 4)) = z := ⟨_, rfl⟩
    rw [hc2] at HN HL2 HT2
    have hcl : (Builtin.clear_ #[48] 0 #[.slice (some ⟨g, m * 4, none⟩) (n - m) (cap - m)]).run Try.prog wn = .ok (.tuple #[]) (wn.setCells g (m * 4) (zcf (n - m))) := frun_clear 0 c2 (unhide HN) (by omega) (by rw [unhide HL2]; omega)
    go_wp2_with fail
    go_ret
    refine ⟨_, rfl, by rw [show n - 1 = m by omega, ← hki]; exact frow_own (unhide HB) (RowAt.sets (zcf (n - m)) c2 (m * 4) wn (unhide HN)) (by omega) (unhide HMAX) (by rw [setL_len]; exact unhide HL2) (by rw [setL_take _ _ _ _ (by omega)]; exact unhide HT2), Only.sets (p := fun i => (Value.slice (some ⟨g, 0, none⟩) n cap).ownBlock = some i) rfl _ _ _ (unhide HON), fun i hi => hi⟩
end Go.Proofs.Ytmkpphkdaiienaa
