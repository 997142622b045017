/- Digests side by side in memory; the digest of the last two. -/
import Derived.Test.YtonkgiiacholeaaDoorALog
import Derived.Laws.ResultCell
import Derived.Test.YtonkgiiacholeaaDoorDig
import Derived.Test.YtonkgiiacholeaaDoorTail
namespace Go.Proofs.YtonkgiiacholeaaDoor
set_option linter.unusedVariables false
set_option linter.unusedSimpArgs false
open Go.ChangeShapes Go.WideShapes Go.ChangeAt Go.RowKit Go.Joins

theorem flat_at : ∀ (L : List (List Nat)) (i j : Nat) (s : List Nat), (∀ x ∈ L, x.length = 32) → L[i]? = some s → j < 32 → L.flatten[i * 32 + j]? = s[j]?
  | [], i, j, s, _, h, _ => by cases h
  | x :: L, 0, j, s, hl, h, hj => by
    obtain rfl : x = s := by simpa using h
    rw [List.flatten_cons, List.getElem?_append_left (by rw [hl x (List.mem_cons_self ..)]; omega)]
    congr 1
    omega
  | x :: L, i + 1, j, s, hl, h, hj => by
    have hx := hl x (List.mem_cons_self ..)
    rw [List.flatten_cons, List.getElem?_append_right (by rw [hx]; omega), hx, show (i + 1) * 32 + j - 32 = i * 32 + j by omega]
    exact flat_at L i j s (fun y hy => hl y (List.mem_cons_of_mem _ hy)) (by simpa using h) hj
/-- digests side by side, to be read -/
structure SS (w : World) (a : Addr) (L : List (List Nat)) : Prop where
  one : a.spot = none
  at_ : ∀ (i : Nat) s, L[i]? = some s → s.length = 32 ∧ U8 s ∧ w.rangeAt a.block (a.off + i * 32) (bv s)
theorem SS.of_own {w : World} {g b cap : Nat} {L : List (List Nat)} (h : w.ownsRow b 43 32 (.slice (some ⟨g, 0, none⟩) L.length cap) L.length (bv L.flatten)) (hl : ∀ s ∈ L, s.length = 32 ∧ U8 s) : SS w ⟨g, 0, none⟩ L := by
  refine ⟨rfl, fun i s hs => ?_⟩
  have hm := List.mem_of_getElem? hs
  have hi : i < L.length := (List.getElem?_eq_some_iff.1 hs).1
  refine ⟨(hl s hm).1, (hl s hm).2, fun j v hv => ?_⟩
  have hj : j < 32 := by
    have := (List.getElem?_eq_some_iff.1 hv).1
    rw [bv_len, (hl s hm).1] at this
    exact this
  simp only [Nat.zero_add]
  rw [h.cellAt (i * 32 + j) (by have : (i + 1) * 32 ≤ L.length * 32 := Nat.mul_le_mul_right _ hi; omega)]
  rw [← hv]
  simp only [bv, List.getElem?_map]
  rw [flat_at L i j s (fun x hx => (hl x hx).1) hs hj]
theorem SS.call {w w' : World} {a : Addr} {L : List (List Nat)} (h : SS w a L) (hb : Below w.heap.size w w') : SS w' a L :=
  ⟨h.one, fun i s hs => ⟨(h.at_ i s hs).1, (h.at_ i s hs).2.1, fun j v hv => by
    have := (h.at_ i s hs).2.2 j v hv
    have hlt := World.block_lt_of_cell? w _ this
    exact (World.cell?_of_block (hb.block _ hlt)).trans this⟩⟩
theorem idx_sum (g o n c i : Nat) (w : World) (hi : i < n) : (Instr.indexAt 121 (.slice (some ⟨g, o, none⟩) n c) (.int .i64 (i : Int))).run Tryd.prog w = .ok (.pointer (some ⟨g, o + i * 32, none⟩)) w := by
  have h1 : ((0 : Int) ≤ (i : Int) ∧ (i : Int) < (n : Int)) := by omega
  simp [Instr.indexAt, run_underlying Tryd.underlying121, asIntOf, h1, run_size z27, add_plain]
  intro h
  omega
theorem z43 : (Tryd.prog.info? 43).map (·.size) = some 32 := z27
theorem size43 {s : List Nat} (h : s.length = 32) : (Tryd.prog.info? 43).map (·.size) = some (bv s).length := by rw [bv_len, h]; exact z27

theorem results_row_tmp {P : Program} {fn : Func} {p u : Tmp} {ty : TypeId} (h : fn.results = #[.cell p ty, .tmp u]) (tmps : Array Value) (w : World) (g : Nat) (t : TypeId) (cs : Array Value) (fr : Nat × Nat) (d : TypeDesc)
    (hp : tmps.getD p undef = .pointer (some ⟨g, 0, none⟩)) (hg : w.heap[g]? = some (.cells cs t fr))
    (hu : P.underlying ty = some d) (hd : (match d with | .struct _ | .array _ _ => true | _ => false) = true) (hi : (P.info? ty).map (·.size) = some cs.size) :
    (results fn tmps).run P w = .ok (.tuple #[.agg cs, tmps.getD u undef]) w := by
  rw [results_cell_tmp h]
  have hp' : tmps[p]?.getD undef = .pointer (some ⟨g, 0, none⟩) := by simpa using hp
  simp [hp', asAddr, run_loadVar_row w g t ty cs fr d hg hu hd hi]
set_option maxRecDepth 100000 in
set_option maxHeartbeats 4000000 in
theorem pair_odd (a : Option Addr) (n c : Nat) (w : World) (ho : n % 2 = 1) (hn : n ≤ 1000000) : Calls Tryd.prog 77 #[.slice a n c] w fun e w' => e = .returned (.tuple #[.agg (bv (List.replicate 32 0)).toArray, .bool false]) ∧ Below w.heap.size w w' := by
  have hz := zero27
  generalize hZ : (bv (List.replicate 32 0)).toArray = Z at hz ⊢
  have HZS : Hid (Z.size = 32) := hide (by rw [← hZ, List.size_toArray, bv_len, List.length_replicate])
  have b1 : Below w.heap.size w (w.alloc (.cells Z 43)) := (Below.refl _ _).alloc (Nat.le_refl _) _
  have R1 : RowAt (w.alloc (.cells Z 43)) w.heap.size 43 (bv (List.replicate 32 0)) := hZ ▸ RowAt.new w 43 (bv (List.replicate 32 0))
  have t1 : ((n : Int) % 2 == 1) = true := beq_iff_eq.2 (by omega)
  have HE2 := hide (R1.arr hZ)
  have HEO : Hid (Z.all (·.oneCell') = true) := hide (hZ ▸ one_bv _)
  have HB1 := hide b1
  clear R1 b1 hZ ho
  go_enter Tryd.func77, Tryd.ntmps77
  go_wp2_with (refine wpList_store_row rfl 43 _ _ rfl w.heap.size Z rfl rfl 43 Z (unhide HE2) (by rw [z27, unhide HZS]) rfl (unhide HEO) ?_)
  refine bodyPost_ret (results_row_tmp Tryd.results77 _ _ w.heap.size 43 Z (0, 0) _ rfl (setRow_heap _ _ _ _ _ _ (unhide HE2)) Tryd.underlying43 rfl (by rw [z27, unhide HZS])) rfl ⟨rfl, ?_⟩
  exact Below.trans (unhide HB1) ⟨rfl, rfl, rfl, by simp [World.setRow], fun k hk => setRow_other _ _ _ _ (by omega)⟩
set_option maxRecDepth 100000 in
set_option maxHeartbeats 4000000 in
theorem pair_even (g n c : Nat) (L : List (List Nat)) (x y : List Nat) (w : World) (hT : Tabs w) (ho : n % 2 = 0) (hn2 : 2 ≤ n) (hn : n ≤ 1000000) (hS : SS w ⟨g, 0, none⟩ L) (hl : L.length = n) (hx : L[n - 2]? = some x) (hy : L[n - 1]? = some y) :
    Calls Tryd.prog 77 #[.slice (some ⟨g, 0, none⟩) n c] w fun e w' => e = .returned (.tuple #[.agg (bv (knotL x y)).toArray, .bool true]) ∧ Below w.heap.size w w' := by
  have hz := zero27
  generalize hZ : (bv (List.replicate 32 0)).toArray = Z at hz ⊢
  have HZE := hide hZ
  have HZS : Hid (Z.size = 32) := hide (by rw [← hZ, List.size_toArray, bv_len, List.length_replicate])
  have b1 : Below w.heap.size w (w.alloc (.cells Z 43)) := (Below.refl _ _).alloc (Nat.le_refl _) _
  have HR1 : Hid (RowAt (w.alloc (.cells Z 43)) w.heap.size 43 (bv (List.replicate 32 0))) := hide (hZ ▸ RowAt.new w 43 (bv (List.replicate 32 0)))
  have HB1 := hide b1
  have t1 : ((n : Int) % 2 == 1) = false := beq_eq_false_iff_ne.2 (by omega)
  have t2 : (2 : Int) ≤ (n : Int) := by omega
  obtain ⟨x1, x8, xr⟩ := hS.at_ _ x hx
  obtain ⟨y1, y8, yr⟩ := hS.at_ _ y hy
  simp only [Nat.zero_add] at xr yr
  obtain ⟨M, hM⟩ : ∃ M, n - 2 = M := ⟨_, rfl⟩
  obtain ⟨M1, hM1⟩ : ∃ M, n - 1 = M := ⟨_, rfl⟩
  rw [hM] at xr
  rw [hM1] at yr
  have w1 : IntKind.i64.wrap ((n : Int) - 2) = (M : Int) := by unfold IntKind.wrap; simp [IntKind.bits, IntKind.signed]; omega
  have w2 : IntKind.i64.wrap ((n : Int) - 1) = (M1 : Int) := by unfold IntKind.wrap; simp [IntKind.bits, IntKind.signed]; omega
  have q1 : (M : Int) < (n : Int) := by omega
  have q2 : (M1 : Int) < (n : Int) := by omega
  have q3 : M < n := by omega
  have q4 : M1 < n := by omega
  obtain ⟨X, hX⟩ : ∃ X, bv x = X := ⟨_, rfl⟩
  obtain ⟨Y, hY⟩ : ∃ Y, bv y = Y := ⟨_, rfl⟩
  have hiX : (Tryd.prog.info? 43).map (·.size) = some X.length := hX ▸ size43 x1
  have hiY : (Tryd.prog.info? 43).map (·.size) = some Y.length := hY ▸ size43 y1
  rw [hX] at xr
  rw [hY] at yr
  have HLX : Hid (∀ w', w' = (w.alloc (.cells Z 43)).drew → (loadVar 43 ⟨g, M * 32, none⟩).run Tryd.prog w' = .ok (.agg X.toArray) w') := hide (fun w' e => by
    subst e
    exact run_loadVar_mid _ g (M * 32) 43 X _ ((World.rangeAt_drew _ _ _ _).2 (World.rangeAt_alloc xr (.cells Z 43))) Tryd.underlying43 rfl hiX)
  have HLY : Hid (∀ w', w' = (w.alloc (.cells Z 43)).drew → (loadVar 43 ⟨g, M1 * 32, none⟩).run Tryd.prog w' = .ok (.agg Y.toArray) w') := hide (fun w' e => by
    subst e
    exact run_loadVar_mid _ g (M1 * 32) 43 Y _ ((World.rangeAt_drew _ _ _ _).2 (World.rangeAt_alloc yr (.cells Z 43))) Tryd.underlying43 rfl hiY)
  obtain ⟨E, hE⟩ : ∃ E, (bv (knotL x y)).toArray = E := ⟨_, rfl⟩
  have HES : Hid (E.size = 32) := hide (by rw [← hE, List.size_toArray, bv_len, knotL_len])
  have HEO : Hid (E.all (·.oneCell') = true) := hide (hE ▸ one_bv _)
  have HK := hide (p := ∀ W, Below w.heap.size w W → Calls Tryd.prog 81 #[.agg X.toArray, .agg Y.toArray] W fun e w' => e = .returned (.agg E) ∧ Below W.heap.size W w') (fun W hW => by
    have := knot_any x y W (hT.below hW) x1 y1 x8 y8
    rw [hX, hY, hE] at this
    exact this)
  rw [hE]
  clear b1 hZ ho xr yr hS hx hy hX hY hE hT x8 y8 x1 y1 hiX hiY hn2 hl hM hM1
  go_enter Tryd.func77, Tryd.ntmps77
  go_wp2_with fail
  generalize w.alloc (.cells Z 43) = w1 at *
  obtain ⟨XA, hXA⟩ : ∃ A, X.toArray = A := ⟨_, rfl⟩
  obtain ⟨YA, hYA⟩ : ∃ A, Y.toArray = A := ⟨_, rfl⟩
  rw [hXA] at HLX HK
  rw [hYA] at HLY HK
  clear hXA hYA
  refine wp_region_tail 10 (by kernel_rfl) (by kernel_rfl) ?_
  simp only [List.take_succ_cons, List.take_zero, List.drop_succ_cons, List.drop_zero]
  repeat (first
    | (refine wpQuiet_load rfl 43 _ rfl ⟨g, M * 32, none⟩ rfl _ (unhide HLX) ?_; simp only [Act.put, List.setIfInBounds_toArray, List.set_cons_succ, List.set_cons_zero])
    | (refine wpQuiet_load rfl 43 _ rfl ⟨g, M1 * 32, none⟩ rfl _ (unhide HLY) ?_; simp only [Act.put, List.setIfInBounds_toArray, List.set_cons_succ, List.set_cons_zero])
    | go_big_quiet_step (fail))
  refine wpQuiet_nil ?_
  go_wp2_with fail
  refine Calls.mono (unhide HK _ (unhide HB1).drew) ?_
  rintro e w5 ⟨rfl, b5⟩
  have HE2 := hide (((unhide HR1).drew.below b5 (unhide HR1).drew.lt).arr (unhide HZE))
  have HB5 := hide ((unhide HB1).drew.trans (b5.mono (unhide HB1).drew.size))
  clear b5 HK HR1 HB1
  go_wp2_with (refine wpList_store_row rfl 43 _ _ rfl w.heap.size E rfl rfl 43 Z (unhide HE2) (by rw [z27, unhide HES]) (by rw [unhide HES, unhide HZS]) (unhide HEO) ?_)
  refine bodyPost_ret (results_row_tmp Tryd.results77 _ _ w.heap.size 43 E (0, 0) _ rfl (setRow_heap _ _ _ _ _ _ (unhide HE2)) Tryd.underlying43 rfl (by rw [z27, unhide HES])) rfl ⟨rfl, ?_⟩
  exact Below.trans (unhide HB5) ⟨rfl, rfl, rfl, by simp [World.setRow], fun k hk => setRow_other _ _ _ _ (by omega)⟩
end Go.Proofs.YtonkgiiacholeaaDoor
